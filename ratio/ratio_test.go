package ratio_test

import (
	"math"
	"math/big"
	"slices"
	"strconv"
	"strings"
	"testing"

	"cleanse/api"
	"cleanse/ratio"
)

type operation struct {
	name  string
	apply func(a, b api.Ratio) (api.Ratio, api.Errno)
	exact func(a, b *big.Rat) *big.Rat
}

func operations() []operation {
	return []operation{
		{"Add", ratio.Add, func(a, b *big.Rat) *big.Rat { return new(big.Rat).Add(a, b) }},
		{"Sub", ratio.Sub, func(a, b *big.Rat) *big.Rat { return new(big.Rat).Sub(a, b) }},
		{"Mul", ratio.Mul, func(a, b *big.Rat) *big.Rat { return new(big.Rat).Mul(a, b) }},
		{"Div", ratio.Div, func(a, b *big.Rat) *big.Rat { return new(big.Rat).Quo(a, b) }},
	}
}

// of returns a ratio as it stands, valid or not.
func of(num, den int) api.Ratio { return api.Ratio{Num: num, Den: den} }

func exact(a api.Ratio) *big.Rat { return big.NewRat(int64(a.Num), int64(a.Den)) }

// expected returns the ratio of an exact number, worked out apart from the program.
func expected(x *big.Rat) (api.Ratio, api.Errno) {
	limit := big.NewInt(1000000000)
	if x.Num().CmpAbs(limit) > 0 || x.Denom().Cmp(limit) > 0 {
		return api.Ratio{}, api.ErrRange
	}
	return of(int(x.Num().Int64()), int(x.Denom().Int64())), api.OK
}

// edgeIntegers returns integers around every limit that matters, and the extreme ones.
func edgeIntegers() []int {
	out := []int{math.MinInt, math.MinInt + 1, math.MaxInt, math.MaxInt - 1, -1 << 62, 1 << 62}
	for _, n := range []int{0, 1, 2, 3, 4, 6, 7, 12, 1000, 31622, 31623, 999999937, 999999999, 1000000000, 1000000001, 2000000000, 3000000003, 1000000000000000000} {
		out = append(out, n, -n)
	}
	return out
}

// validSample returns valid ratios: small ones, and ones at the limits.
func validSample() []api.Ratio {
	var out []api.Ratio
	for _, num := range []int{0, 1, 2, 3, 5, 12, 1000, 31623, 999999937, 999999999, 1000000000} {
		for _, den := range []int{1, 2, 3, 4, 7, 12, 999, 31622, 999999937, 999999999, 1000000000} {
			if new(big.Int).GCD(nil, nil, big.NewInt(int64(num)), big.NewInt(int64(den))).Int64() != 1 {
				continue
			}
			out = append(out, of(num, den))
			if num != 0 {
				out = append(out, of(-num, den))
			}
		}
	}
	return out
}

// shareSample returns valid ratios from 0 to 1, small ones and ones at the limits.
func shareSample() []api.Ratio {
	out := []api.Ratio{of(0, 1), of(1, 1), of(1, 999999999), of(1, 1000000000), of(999999999, 1000000000), of(31622, 31623), of(31621, 31622)}
	for den := 2; den <= 20; den++ {
		for num := 1; num < den; num++ {
			if a := of(num, den); ratio.Valid(a) {
				out = append(out, a)
			}
		}
	}
	return out
}

// invalidSample returns ratios that are not valid, for each reason.
func invalidSample() []api.Ratio {
	return []api.Ratio{{}, of(1, 0), of(0, 2), of(0, 1000000000), of(2, 4), of(-2, 4), of(1000000000, 1000000000), of(1, -1), of(-1, -2), of(0, -1), of(1000000001, 1), of(-1000000001, 1), of(1, 1000000001), of(math.MinInt, 1), of(1, math.MinInt), of(math.MinInt, math.MinInt), of(math.MaxInt, math.MaxInt), of(math.MaxInt, 1), of(1, math.MaxInt)}
}

// P1.1, A1: which ratios are valid.
func TestValid(t *testing.T) {
	for _, a := range []api.Ratio{of(0, 1), of(1, 1), of(-1, 1), of(-3, 2), of(1000000000, 1), of(-1000000000, 1), of(1, 1000000000), of(-999999999, 1000000000), of(1000000000, 999999999)} {
		if !ratio.Valid(a) {
			t.Error(a, "is valid")
		}
	}
	for _, a := range invalidSample() {
		if ratio.Valid(a) {
			t.Error(a, "is not valid")
		}
	}
	limit := 1000000000
	for _, num := range edgeIntegers() {
		for _, den := range edgeIntegers() {
			divisor := new(big.Int).GCD(nil, nil, new(big.Int).Abs(big.NewInt(int64(num))), new(big.Int).Abs(big.NewInt(int64(den))))
			want := den >= 1 && den <= limit && num >= -limit && num <= limit && divisor.Cmp(big.NewInt(1)) == 0
			if ratio.Valid(of(num, den)) != want {
				t.Error(num, den, !want)
			}
		}
	}
}

// P1.1, A1: the examples of the chapter and the edge cases that it names.
func TestMakeExamples(t *testing.T) {
	for _, test := range []struct {
		num, den int
		want     api.Ratio
		err      api.Errno
	}{
		{6, -4, of(-3, 2), api.OK},
		{0, -7, of(0, 1), api.OK},
		{0, math.MinInt, of(0, 1), api.OK},
		{1, 0, api.Ratio{}, api.ErrArg},
		{0, 0, api.Ratio{}, api.ErrArg},
		{math.MinInt, 0, api.Ratio{}, api.ErrArg},
		{1, 1000000000, of(1, 1000000000), api.OK},
		{1, 1000000001, api.Ratio{}, api.ErrRange},
		{1, -1000000001, api.Ratio{}, api.ErrRange},
		{1000000000, -1, of(-1000000000, 1), api.OK},
		{1000000001, 1, api.Ratio{}, api.ErrRange},
		{-1000000001, 1, api.Ratio{}, api.ErrRange},
		{2000000002, 2, api.Ratio{}, api.ErrRange},
		{math.MinInt, math.MinInt, of(1, 1), api.OK},
		{math.MinInt, 1 << 62, of(-2, 1), api.OK},
		{1 << 62, math.MinInt, of(-1, 2), api.OK},
		{math.MinInt, -1, api.Ratio{}, api.ErrRange},
		{-1, math.MinInt, api.Ratio{}, api.ErrRange},
		{math.MinInt, math.MaxInt, api.Ratio{}, api.ErrRange},
	} {
		if got, err := ratio.Make(test.num, test.den); got != test.want || err != test.err {
			t.Errorf("Make(%d, %d): %v %v", test.num, test.den, got, err)
		}
	}
}

// P1.2: what Make returns is valid and equal to num / den; ErrRange exactly if it is out of range.
func TestMakeLowestTerms(t *testing.T) {
	numbers := edgeIntegers()
	for n := -30; n <= 30; n++ {
		numbers = append(numbers, n)
	}
	for _, num := range numbers {
		for _, den := range numbers {
			want, wantErr := api.Ratio{}, api.ErrArg
			if den != 0 {
				want, wantErr = expected(new(big.Rat).SetFrac(big.NewInt(int64(num)), big.NewInt(int64(den))))
			}
			got, err := ratio.Make(num, den)
			if got != want || err != wantErr {
				t.Fatalf("Make(%d, %d): %v %v, not %v %v", num, den, got, err, want, wantErr)
			}
			if err == api.OK && !ratio.Valid(got) {
				t.Fatalf("Make(%d, %d): %v is not valid", num, den, got)
			}
		}
	}
}

// P1.1, A2: the examples of the chapter, and results just within and just beyond the limits.
func TestOperationExamples(t *testing.T) {
	for i, test := range []struct {
		apply func(a, b api.Ratio) (api.Ratio, api.Errno)
		a, b  api.Ratio
		want  api.Ratio
		err   api.Errno
	}{
		{ratio.Add, of(1, 6), of(1, 3), of(1, 2), api.OK},
		{ratio.Add, of(999999999, 1), of(1, 1), of(1000000000, 1), api.OK},
		{ratio.Add, of(1000000000, 1), of(1, 1), api.Ratio{}, api.ErrRange},
		{ratio.Add, of(1, 31622), of(1, 31623), of(63245, 31622*31623), api.OK},
		{ratio.Add, of(1, 31623), of(1, 31624), api.Ratio{}, api.ErrRange},
		{ratio.Sub, of(1, 2), of(1, 3), of(1, 6), api.OK},
		{ratio.Sub, of(1, 3), of(1, 2), of(-1, 6), api.OK},
		{ratio.Sub, of(3, 7), of(3, 7), of(0, 1), api.OK},
		{ratio.Sub, of(-1000000000, 1), of(1, 1), api.Ratio{}, api.ErrRange},
		{ratio.Mul, of(2, 3), of(9, 4), of(3, 2), api.OK},
		{ratio.Mul, of(-1000000000, 999999999), of(999999999, 1000000000), of(-1, 1), api.OK},
		{ratio.Mul, of(31623, 1), of(31623, 1), api.Ratio{}, api.ErrRange},
		{ratio.Mul, of(1, 1000000000), of(1, 2), api.Ratio{}, api.ErrRange},
		{ratio.Div, of(1, 2), of(-3, 4), of(-2, 3), api.OK},
		{ratio.Div, of(-1, 2), of(-3, 4), of(2, 3), api.OK},
		{ratio.Div, of(1, 2), of(0, 1), api.Ratio{}, api.ErrArg},
		{ratio.Div, of(0, 1), of(0, 1), api.Ratio{}, api.ErrArg},
		{ratio.Div, of(1000000000, 1), of(0, 1), api.Ratio{}, api.ErrArg},
		{ratio.Div, of(0, 1), of(-5, 3), of(0, 1), api.OK},
		{ratio.Div, of(1000000000, 1), of(1, 2), api.Ratio{}, api.ErrRange},
		{ratio.Div, of(-1, 1), of(-1000000000, 999999999), of(999999999, 1000000000), api.OK},
	} {
		if got, err := test.apply(test.a, test.b); got != test.want || err != test.err {
			t.Error(i, test.a, test.b, got, err)
		}
	}
}

// P1.1, A2: the operations agree with exact arithmetic for valid ratios up to the limits.
func TestOperationsAreExact(t *testing.T) {
	sample := validSample()
	for _, op := range operations() {
		for _, a := range sample {
			for _, b := range sample {
				want, wantErr := api.Ratio{}, api.ErrArg
				if op.name != "Div" || b.Num != 0 {
					want, wantErr = expected(op.exact(exact(a), exact(b)))
				}
				if got, err := op.apply(a, b); got != want || err != wantErr {
					t.Fatalf("%s(%v, %v): %v %v, not %v %v", op.name, a, b, got, err, want, wantErr)
				}
			}
		}
	}
}

// P1.1, A2 to A4, and P1: arguments that are not valid are refused, even together with 0 and with what would be out of range; nothing panics.
func TestInvalidArguments(t *testing.T) {
	others := slices.Concat(invalidSample(), validSample())
	for _, a := range invalidSample() {
		if got := ratio.Text(a); got != "" {
			t.Errorf("Text(%v): %q", a, got)
		}
		for _, b := range others {
			if ratio.Cmp(a, b) != 0 || ratio.Cmp(b, a) != 0 {
				t.Error("Cmp", a, b)
			}
			for _, op := range operations() {
				if got, err := op.apply(a, b); got != (api.Ratio{}) || err != api.ErrArg {
					t.Error(op.name, a, b, got, err)
				}
				if got, err := op.apply(b, a); got != (api.Ratio{}) || err != api.ErrArg {
					t.Error(op.name, b, a, got, err)
				}
			}
		}
	}
}

// chain applies operations from left to right as long as there is no error.
type chain struct {
	now api.Ratio
	err api.Errno
}

func (c chain) then(apply func(a, b api.Ratio) (api.Ratio, api.Errno), b api.Ratio) chain {
	if c.err != api.OK {
		return c
	}
	now, err := apply(c.now, b)
	return chain{now, err}
}

func (c chain) with(apply func(a, b api.Ratio) (api.Ratio, api.Errno), d chain) chain {
	if d.err != api.OK {
		return d
	}
	return c.then(apply, d.now)
}

// differ reports whether both chains have results, which are not the same.
func differ(c, d chain) bool {
	return c.err == api.OK && d.err == api.OK && c.now != d.now
}

func from(a api.Ratio) chain { return chain{now: a} }

// P1.3: the order of the arguments does not matter; Sub undoes Add; Div undoes Mul.
func TestFieldOfTwo(t *testing.T) {
	sample := validSample()
	for _, a := range sample {
		for _, b := range sample {
			if from(a).then(ratio.Add, b) != from(b).then(ratio.Add, a) || from(a).then(ratio.Mul, b) != from(b).then(ratio.Mul, a) {
				t.Fatal("order of arguments", a, b)
			}
			if sum := from(a).then(ratio.Add, b); sum.err == api.OK && sum.then(ratio.Sub, b) != from(a) {
				t.Fatal("Sub does not undo Add", a, b)
			}
			if product := from(a).then(ratio.Mul, b); b.Num != 0 && product.err == api.OK && product.then(ratio.Div, b) != from(a) {
				t.Fatal("Div does not undo Mul", a, b)
			}
		}
	}
}

// P1.3: grouping does not matter; a product with a sum is the sum of the products.
func TestFieldOfThree(t *testing.T) {
	sample := append(validSample()[:40], of(1, 1000000000), of(-7, 12), of(7, 12), of(1000000000, 1), of(-1000000000, 1))
	compared := 0
	for _, a := range sample {
		for _, b := range sample {
			for _, c := range sample {
				sums := [2]chain{from(a).then(ratio.Add, b).then(ratio.Add, c), from(a).with(ratio.Add, from(b).then(ratio.Add, c))}
				products := [2]chain{from(a).then(ratio.Mul, b).then(ratio.Mul, c), from(a).with(ratio.Mul, from(b).then(ratio.Mul, c))}
				spread := [2]chain{from(a).with(ratio.Mul, from(b).then(ratio.Add, c)), from(a).then(ratio.Mul, b).with(ratio.Add, from(a).then(ratio.Mul, c))}
				for _, pair := range [][2]chain{sums, products, spread} {
					if differ(pair[0], pair[1]) {
						t.Fatal(a, b, c, pair)
					}
					if pair[0].err == api.OK && pair[1].err == api.OK {
						compared++
					}
				}
			}
		}
	}
	if compared < 10000 {
		t.Error("few results are in range:", compared)
	}
}

// P1.4: Cmp is the order of the numbers, 0 exactly for the same ratio, and reversed if the arguments are exchanged.
func TestOrder(t *testing.T) {
	sample := validSample()
	for _, a := range sample {
		for _, b := range sample {
			got := ratio.Cmp(a, b)
			if got != exact(a).Cmp(exact(b)) || got != -ratio.Cmp(b, a) || (got == 0) != (a == b) {
				t.Fatal(a, b, got)
			}
		}
	}
	if ratio.Cmp(of(999999999, 1000000000), of(999999998, 999999999)) != 1 || ratio.Cmp(of(-1000000000, 999999999), of(-999999999, 999999998)) != 1 {
		t.Error("neighbours at the limits")
	}
}

// P1.4: Cmp is transitive, and does not change with the same sum or the same positive factor.
func TestOrderOfThree(t *testing.T) {
	sample := append(validSample()[:40], of(-1000000000, 1), of(1000000000, 1), of(999999999, 1000000000), of(999999998, 999999999))
	compared := 0
	for _, a := range sample {
		for _, b := range sample {
			order := ratio.Cmp(a, b)
			for _, c := range sample {
				if order <= 0 && ratio.Cmp(b, c) <= 0 && ratio.Cmp(a, c) > 0 {
					t.Fatal("transitive", a, b, c)
				}
				if d, e := from(a).then(ratio.Add, c), from(b).then(ratio.Add, c); d.err == api.OK && e.err == api.OK {
					compared++
					if ratio.Cmp(d.now, e.now) != order {
						t.Fatal("sum", a, b, c)
					}
				}
				if d, e := from(a).then(ratio.Mul, c), from(b).then(ratio.Mul, c); c.Num > 0 && d.err == api.OK && e.err == api.OK {
					compared++
					if ratio.Cmp(d.now, e.now) != order {
						t.Fatal("product", a, b, c)
					}
				}
			}
		}
	}
	if compared < 10000 {
		t.Error("few results are in range:", compared)
	}
}

// P1.1, A4: texts of ratios, and texts of none.
func TestTextExamples(t *testing.T) {
	for text, a := range map[string]api.Ratio{"0": of(0, 1), "-3/2": of(-3, 2), "7": of(7, 1), "-1": of(-1, 1), "1000000000": of(1000000000, 1), "-1000000000": of(-1000000000, 1), "1/1000000000": of(1, 1000000000), "-1000000000/999999999": of(-1000000000, 999999999), "10/3": of(10, 3)} {
		if got := ratio.Text(a); got != text {
			t.Errorf("Text(%v): %q", a, got)
		}
		if got, err := ratio.Parse(text); got != a || err != api.OK {
			t.Errorf("Parse(%q): %v %v", text, got, err)
		}
	}
	for _, text := range []string{"", "/", "-", "+", "4/2", "2/4", "0/1", "0/2", "1/1", "3/1", "-0", "+1", "01", "-01", "00", "1/02", "1/+2", "1/-2", "-1/-2", "1/0", "0/0", "/2", "1/", "1/2/3", "1//2", "--1", "- 1", " 1", "1 ", "1\n", "1_0", "0x1", "1e3", "1.5", "a", "1000000001", "-1000000001", "1/1000000001", "1000000001/1000000000", "9223372036854775808", "-9223372036854775808", "18446744073709551617", "1/18446744073709551618", "99999999999999999999999", "١", "1\x00", strings.Repeat("1", 100000), strings.Repeat("/", 100000), strings.Repeat("0", 100) + "1"} {
		if got, err := ratio.Parse(text); got != (api.Ratio{}) || err != api.ErrNumber {
			t.Errorf("Parse(%q): %v %v", text, got, err)
		}
	}
}

// P1.5: Parse returns a valid ratio for its text.
func TestParseOfText(t *testing.T) {
	for _, a := range slices.Concat(validSample(), shareSample()) {
		if got, err := ratio.Parse(ratio.Text(a)); got != a || err != api.OK {
			t.Error(a, ratio.Text(a), got, err)
		}
	}
}

// P1.5: a text that Parse accepts is the text of its result; and exactly the texts of the small ratios are accepted among all short texts of an alphabet.
func TestTextOfParse(t *testing.T) {
	texts := map[string]bool{}
	for num := -9999; num <= 99999; num++ {
		for den := 1; den <= 999; den++ {
			if den > 1 && (num < -99 || num > 999) {
				break
			}
			if ratio.Valid(of(num, den)) {
				texts[plainText(num, den)] = true
			}
		}
	}
	var check func(text string)
	check = func(text string) {
		a, err := ratio.Parse(text)
		if (err == api.OK) != texts[text] || err != api.OK && err != api.ErrNumber || err == api.OK && ratio.Text(a) != text {
			t.Fatalf("Parse(%q): %v %v", text, a, err)
		}
		if len(text) == 5 {
			return
		}
		for _, c := range []string{"0", "1", "2", "3", "4", "9", "-", "+", "/", " ", "_"} {
			check(text + c)
		}
	}
	check("")
}

func plainText(num, den int) string {
	if den == 1 {
		return strconv.Itoa(num)
	}
	return strconv.Itoa(num) + "/" + strconv.Itoa(den)
}

// P1.6: small ratios have exact sums, differences, products and quotients.
func TestSmallRatiosAreExact(t *testing.T) {
	var sample []api.Ratio
	for _, num := range []int{0, 1, 2, 3, 500, 991, 997, 998, 999, 1000} {
		for _, den := range []int{1, 2, 3, 501, 991, 997, 998, 999, 1000} {
			for _, a := range []api.Ratio{of(num, den), of(-num, den)} {
				if ratio.Valid(a) {
					sample = append(sample, a)
				}
			}
		}
	}
	for _, op := range operations() {
		for _, a := range sample {
			for _, b := range sample {
				if op.name == "Div" && b.Num == 0 {
					continue
				}
				got, err := op.apply(a, b)
				if err != api.OK || exact(got).Cmp(op.exact(exact(a), exact(b))) != 0 {
					t.Fatal(op.name, a, b, got, err)
				}
			}
		}
	}
}

// P1.7: products of shares, and quotients of the lesser by the greater, are shares.
func TestShares(t *testing.T) {
	zero, one := of(0, 1), of(1, 1)
	sample := shareSample()
	for _, a := range sample {
		for _, b := range sample {
			lesser, greater := a, b
			if ratio.Cmp(a, b) > 0 {
				lesser, greater = b, a
			}
			if product, err := ratio.Mul(a, b); err == api.OK && (ratio.Cmp(product, zero) < 0 || ratio.Cmp(product, lesser) > 0 || !ratio.Valid(product)) {
				t.Fatal("Mul", a, b, product)
			}
			if lesser.Num == 0 {
				continue
			}
			if quotient, err := ratio.Div(lesser, greater); err == api.OK && (ratio.Cmp(quotient, zero) < 0 || ratio.Cmp(quotient, one) > 0 || !ratio.Valid(quotient)) {
				t.Fatal("Div", lesser, greater, quotient)
			}
		}
	}
}

// everyRatio returns ratios of edge integers as they stand; most of them are not valid.
func everyRatio() []api.Ratio {
	var out []api.Ratio
	for _, num := range edgeIntegers() {
		for _, den := range edgeIntegers() {
			out = append(out, of(num, den))
		}
	}
	return out
}

// P1: for extreme arguments the functions return either a valid ratio, or an error and the zero ratio.
func TestErrorsComeAlone(t *testing.T) {
	alone := func(a api.Ratio, err api.Errno) bool {
		return err == api.OK && ratio.Valid(a) || err != api.OK && a == api.Ratio{}
	}
	ratios := everyRatio()
	for i, a := range ratios {
		if c, err := ratio.Make(a.Num, a.Den); !alone(c, err) {
			t.Fatal("Make", a, c, err)
		}
		if c, err := ratio.Parse(strconv.Itoa(a.Num) + "/" + strconv.Itoa(a.Den)); !alone(c, err) {
			t.Fatal("Parse", a, c, err)
		}
		if ratio.Valid(a) != (ratio.Text(a) != "") {
			t.Fatal("Text", a)
		}
		for j := i % 17; j < len(ratios); j += 17 {
			for _, op := range operations() {
				if c, err := op.apply(a, ratios[j]); !alone(c, err) {
					t.Fatal(op.name, a, ratios[j], c, err)
				}
			}
		}
	}
}

// P3: calls with equal arguments have equal results, whatever was called in between.
func TestIndependence(t *testing.T) {
	results := func() []string {
		var out []string
		ratios := everyRatio()
		for i, a := range ratios {
			b := ratios[i*7%len(ratios)]
			made, madeErr := ratio.Make(a.Num, a.Den)
			text := ratio.Text(made)
			parsed, parsedErr := ratio.Parse(text)
			out = append(out, text, ratio.Text(parsed), strconv.Itoa(int(madeErr)), strconv.Itoa(int(parsedErr)), strconv.Itoa(ratio.Cmp(a, b)))
			for _, op := range operations() {
				c, err := op.apply(made, b)
				out = append(out, ratio.Text(c), strconv.Itoa(int(err)))
			}
		}
		return out
	}
	if first := results(); !slices.Equal(first, results()) {
		t.Error("results differ")
	}
}
