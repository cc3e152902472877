package printer

import (
	"strconv"
	"strings"

	"cleanse/api"
)

// maxNumber is the greatest number that can be written: that of ten digits.
const maxNumber = 9999999999

// name returns a name, and refuses what is none.
func name(s string) string {
	isLetter := func(c byte) bool { return c >= 'a' && c <= 'z' || c >= 'A' && c <= 'Z' }
	require(s != "" && len(s) <= api.MaxName && isLetter(s[0]))
	for i := range len(s) {
		require(isLetter(s[i]) || s[i] >= '0' && s[i] <= '9' || s[i] == '_')
	}
	return s
}

// number returns the digits of a number, and refuses one that is beyond those of tokens.
func number(n int) string {
	require(n >= 0 && n <= maxNumber)
	return strconv.Itoa(n)
}

// choose returns one of some words, which are counted from 1, and refuses a number without a word.
func choose(n int, words ...string) string {
	require(n >= 1 && n <= len(words))
	return words[n-1]
}

// value writes a constant.
func (p *printer) value(v api.Value) {
	require(v.Text == "" || v.Kind == api.KindText)
	switch v.Kind {
	case api.KindNull:
		require(v.N == 0)
		p.put("null")
	case api.KindText:
		require(v.N == 0 && len(v.Text) <= api.MaxText)
		p.put(quote(v.Text))
	case api.KindNumber:
		p.signed(v.N)
	case api.KindDay:
		p.put("@", number(v.N))
	case api.KindFlag:
		require(v.N == 0 || v.N == 1)
		p.put(strconv.FormatBool(v.N == 1))
	default:
		require(false)
	}
}

// signed writes the number of a constant, with its sign directly before it.
func (p *printer) signed(n int) {
	if n < 0 {
		p.put("-")
		p.gap = ""
		n = -n
	}
	p.put(number(n))
}

// quote returns a text between double quotes.
func quote(text string) string {
	return `"` + strings.NewReplacer(`\`, `\\`, `"`, `\"`, "\n", `\n`).Replace(text) + `"`
}
