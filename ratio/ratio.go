// Package ratio computes with exact rational numbers: see shared/doc/01-ratio.md.
package ratio

import (
	"cmp"
	"strconv"
	"strings"

	"cleanse/api"
)

// Valid reports whether a ratio is in lowest terms and within the limits.
func Valid(a api.Ratio) bool {
	if a.Den < 1 || a.Den > api.MaxDen || a.Num < -api.MaxNum || a.Num > api.MaxNum {
		return false
	}
	return commonDivisor(magnitude(a.Num), magnitude(a.Den)) == 1
}

// Make returns num/den in lowest terms.
func Make(num, den int) (api.Ratio, api.Errno) {
	if den == 0 {
		return api.Ratio{}, api.ErrArg
	}
	n, d := magnitude(num), magnitude(den)
	g := commonDivisor(n, d)
	n, d = n/g, d/g
	if n > api.MaxNum || d > api.MaxDen {
		return api.Ratio{}, api.ErrRange
	}
	if (num < 0) != (den < 0) {
		return api.Ratio{Num: -int(n), Den: int(d)}, api.OK
	}
	return api.Ratio{Num: int(n), Den: int(d)}, api.OK
}

// Add returns a sum.
func Add(a, b api.Ratio) (api.Ratio, api.Errno) {
	return operate(a, b, func() (int, int) {
		return a.Num*b.Den + b.Num*a.Den, a.Den * b.Den
	})
}

// Sub returns a difference.
func Sub(a, b api.Ratio) (api.Ratio, api.Errno) {
	return operate(a, b, func() (int, int) {
		return a.Num*b.Den - b.Num*a.Den, a.Den * b.Den
	})
}

// Mul returns a product.
func Mul(a, b api.Ratio) (api.Ratio, api.Errno) {
	return operate(a, b, func() (int, int) {
		return a.Num * b.Num, a.Den * b.Den
	})
}

// Div returns a quotient. Dividing by 0 makes the denominator 0, which Make refuses.
func Div(a, b api.Ratio) (api.Ratio, api.Errno) {
	return operate(a, b, func() (int, int) {
		return a.Num * b.Den, a.Den * b.Num
	})
}

// Cmp returns -1, 0 or 1 if a is less than, equal to or greater than b; 0 if one of them is not valid.
func Cmp(a, b api.Ratio) int {
	if !Valid(a) || !Valid(b) {
		return 0
	}
	return cmp.Compare(a.Num*b.Den, b.Num*a.Den)
}

// Text returns the text of a ratio; "" if it is not valid.
func Text(a api.Ratio) string {
	if !Valid(a) {
		return ""
	}
	if a.Den == 1 {
		return strconv.Itoa(a.Num)
	}
	return strconv.Itoa(a.Num) + "/" + strconv.Itoa(a.Den)
}

// Parse returns the ratio that has a text. Atoi accepts more than the texts of ratios do (signs, leading zeros), and a fraction need not be in lowest terms; so the text of what was read is held against the text that was given.
func Parse(text string) (api.Ratio, api.Errno) {
	before, after, isFraction := strings.Cut(text, "/")
	if !isFraction {
		after = "1"
	}
	num, numErr := strconv.Atoi(before)
	den, denErr := strconv.Atoi(after)
	if numErr != nil || denErr != nil {
		return api.Ratio{}, api.ErrNumber
	}
	a := api.Ratio{Num: num, Den: den}
	if Text(a) != text {
		return api.Ratio{}, api.ErrNumber
	}
	return a, api.OK
}

// operate returns the ratio of the fraction that op computes from a and b, if both are valid. It calls op only then: the products of valid numerators and denominators are at most 10^18, so that op cannot overflow.
func operate(a, b api.Ratio, op func() (num, den int)) (api.Ratio, api.Errno) {
	if !Valid(a) || !Valid(b) {
		return api.Ratio{}, api.ErrArg
	}
	return Make(op())
}

// commonDivisor returns the greatest number that divides all the numbers; 0 if all of them are 0.
func commonDivisor(numbers ...uint64) uint64 {
	var divisor uint64
	for _, n := range numbers {
		for n != 0 {
			divisor, n = n, divisor%n
		}
	}
	return divisor
}

// magnitude returns the absolute value of a number. It is unsigned because that of the least integer fits no signed one.
func magnitude[T ~int | ~int64](n T) uint64 {
	if n < 0 {
		return -uint64(n)
	}
	return uint64(n)
}
