package measure_test

import (
	"math"
	"math/big"
	"slices"
	"strings"
	"testing"

	"cleanse/api"
	"cleanse/measure"
	"cleanse/ratio"
	"cleanse/value"
	"cleanse/words"
)

// maxTolerance is the greatest tolerance that Near permits.
const maxTolerance = 999999999

// of returns a ratio as it stands.
func of(num, den int) api.Ratio { return api.Ratio{Num: num, Den: den} }

func text(s string) api.Value { return api.Value{Kind: api.KindText, Text: s} }
func number(n int) api.Value  { return api.Value{Kind: api.KindNumber, N: n} }
func day(n int) api.Value     { return api.Value{Kind: api.KindDay, N: n} }
func flag(n int) api.Value    { return api.Value{Kind: api.KindFlag, N: n} }

// exact returns the ratio of a number, worked out apart from the program.
func exact(number *big.Rat) api.Ratio {
	return of(int(number.Num().Int64()), int(number.Denom().Int64()))
}

// fraction returns the number num/den.
func fraction(num, den int) *big.Rat { return big.NewRat(int64(num), int64(den)) }

// editModel is Edit, worked out apart from the program: the whole table of the distances of the ends of both texts.
func editModel(a, b string) int {
	table := make([][]int, len(a)+1)
	for i := len(a); i >= 0; i-- {
		table[i] = make([]int, len(b)+1)
		for j := len(b); j >= 0; j-- {
			switch {
			case i == len(a):
				table[i][j] = len(b) - j
			case j == len(b):
				table[i][j] = len(a) - i
			case a[i] == b[j]:
				table[i][j] = table[i+1][j+1]
			default:
				table[i][j] = 1 + min(table[i+1][j], table[i][j+1], table[i+1][j+1])
			}
		}
	}
	return table[0][0]
}

// alikeModel is Alike, worked out apart from the program.
func alikeModel(a, b string) api.Ratio {
	if a == b {
		return of(1, 1)
	}
	unlike := fraction(editModel(a, b), max(len(a), len(b)))
	return exact(new(big.Rat).Sub(fraction(1, 1), unlike))
}

// once returns the elements of a list, each once.
func once(list []string) []string {
	out := slices.Clone(list)
	slices.Sort(out)
	return slices.Compact(out)
}

// jaccardModel is Jaccard, worked out apart from the program.
func jaccardModel(a, b []string) api.Ratio {
	all := once(slices.Concat(a, b))
	if len(all) == 0 {
		return of(1, 1)
	}
	return exact(fraction(len(once(a))+len(once(b))-len(all), len(all)))
}

// matchedModel returns the indices of a and of b that are matched, each in increasing order.
func matchedModel(a, b string) (inA, inB []int) {
	w := max(len(a), len(b))/2 - 1
	if w < 0 {
		w = 0
	}
	for i := range len(a) {
		for j := range len(b) {
			if i-j <= w && j-i <= w && a[i] == b[j] && !slices.Contains(inB, j) {
				inA, inB = append(inA, i), append(inB, j)
				break
			}
		}
	}
	slices.Sort(inB)
	return inA, inB
}

// jaroModel is Jaro, worked out apart from the program.
func jaroModel(a, b string) api.Ratio {
	if len(a) > 200 || len(b) > 200 {
		return of(0, 1)
	}
	if len(a)+len(b) == 0 {
		return of(1, 1)
	}
	inA, inB := matchedModel(a, b)
	m, u := len(inA), 0
	if m == 0 {
		return of(0, 1)
	}
	for k := range inA {
		if a[inA[k]] != b[inB[k]] {
			u++
		}
	}
	inOrder := new(big.Rat).Sub(fraction(m, 1), fraction(u, 2))
	sum := new(big.Rat).Add(fraction(m, len(a)), fraction(m, len(b)))
	sum.Add(sum, inOrder.Quo(inOrder, fraction(m, 1)))
	return exact(sum.Quo(sum, fraction(3, 1)))
}

// nearModel is Near, worked out apart from the program.
func nearModel(a, b, tolerance int) api.Ratio {
	if tolerance < 0 || tolerance > maxTolerance {
		return of(0, 1)
	}
	distance := new(big.Int).Sub(big.NewInt(int64(a)), big.NewInt(int64(b)))
	distance.Abs(distance)
	whole := big.NewInt(int64(tolerance) + 1)
	if distance.Cmp(whole) > 0 {
		distance = whole
	}
	far := new(big.Rat).SetFrac(distance, whole)
	return exact(far.Sub(fraction(1, 1), far))
}

// ofModel is Of, worked out apart from the program.
func ofModel(chosen, tolerance int, a, b api.Value) (api.Ratio, api.Errno) {
	if chosen < 1 || chosen > 5 || !value.Valid(a) || !value.Valid(b) {
		return api.Ratio{}, api.ErrArg
	}
	if chosen == 5 && (tolerance < 0 || tolerance > maxTolerance) {
		return api.Ratio{}, api.ErrArg
	}
	if a.Kind == api.KindNull || b.Kind == api.KindNull {
		return of(0, 1), api.OK
	}
	if chosen == 1 {
		if a == b {
			return of(1, 1), api.OK
		}
		return of(0, 1), api.OK
	}
	if chosen == 5 {
		if a.Kind == b.Kind && (a.Kind == api.KindNumber || a.Kind == api.KindDay) {
			return nearModel(a.N, b.N, tolerance), api.OK
		}
		return api.Ratio{}, api.ErrType
	}
	if a.Kind != api.KindText || b.Kind != api.KindText {
		return api.Ratio{}, api.ErrType
	}
	switch chosen {
	case 2:
		return alikeModel(words.Fold(a.Text), words.Fold(b.Text)), api.OK
	case 3:
		return jaccardModel(words.Tokens(a.Text), words.Tokens(b.Text)), api.OK
	}
	return jaroModel(words.Fold(a.Text), words.Fold(b.Text)), api.OK
}

// numbers returns a function that returns numbers below a bound, always the same ones in the same order.
func numbers() func(bound int) int {
	state := uint64(12345)
	return func(bound int) int {
		state = state*6364136223846793005 + 1442695040888963407
		return int(state>>33) % bound
	}
}

// mixedText returns a text with a length that is made of the bytes of an alphabet.
func mixedText(next func(bound int) int, alphabet string, length int) string {
	out := make([]byte, length)
	for i := range out {
		out[i] = alphabet[next(len(alphabet))]
	}
	return string(out)
}

// changed returns a text after some edits.
func changed(next func(bound int) int, s, alphabet string, edits int) string {
	for range edits {
		at := next(len(s) + 1)
		c := alphabet[next(len(alphabet)):][:1]
		switch {
		case next(3) == 0 || at == len(s):
			s = s[:at] + c + s[at:]
		case next(2) == 0:
			s = s[:at] + s[at+1:]
		default:
			s = s[:at] + c + s[at+1:]
		}
	}
	return s
}

// shortTexts returns all texts of an alphabet with up to a number of bytes.
func shortTexts(alphabet string, length int) []string {
	out := []string{""}
	last := out
	for range length {
		var longer []string
		for _, s := range last {
			for i := range len(alphabet) {
				longer = append(longer, s+alphabet[i:i+1])
			}
		}
		out = append(out, longer...)
		last = longer
	}
	return out
}

// edgeTexts returns texts of many kinds: empty ones, equal ones, ones without a common byte, with blanks, with bytes 0 and 127, bytes from 128 on, and texts around the limit of Jaro.
func edgeTexts() []string {
	out := []string{"", " ", "\x00", "\x7f", "a", "b", "aa", "ab", "ba", "abc", "acb", "bca", "abcd", "badc", "dcba", "kitten", "sitting", "martha", "marhta", "dixon", "dicksonx", "dwayne", "duane", "flaw", "lawn", "Ann", "ann", "Ann Lee", "LEE, Ann", "0123456789", "9876543210", "aaaaaaaaaa", "abababab", "babababa", "abcxyz", "bcauvw", "xyz", "abcabcabc", "\x80", "\xff", "\xff\xfe", "\xc3\xa9", "\xc3\xa8", "caf\xc3\xa9s"}
	for _, length := range []int{200, 201} {
		out = append(out, strings.Repeat("x", length), strings.Repeat("ab", length)[:length], "z"+strings.Repeat("x", length-2)+"y", strings.Repeat("0", length/2)+strings.Repeat("x", length-length/2))
	}
	return out
}

// mixedTexts returns texts of several alphabets and lengths, and others that come from them by some edits.
func mixedTexts() []string {
	next := numbers()
	var out []string
	for _, alphabet := range []string{"a", "ab", "abc", "abcdefghijklmnopqrstuvwxyz", "Ab 1-"} {
		for _, length := range []int{2, 5, 9, 17, 40} {
			s := mixedText(next, alphabet, length)
			out = append(out, s, changed(next, s, alphabet, 1+next(6)))
		}
	}
	return out
}

// sample returns the edges and the mixed texts.
func sample() []string { return append(edgeTexts(), mixedTexts()...) }

// isShare reports whether a ratio is valid and from 0 to 1.
func isShare(a api.Ratio) bool {
	return ratio.Valid(a) && a.Num >= 0 && a.Num <= a.Den
}

// P4.1, D1, D3: the texts of the chapter's examples, and edges: the distances and the similarities that are worked out by hand.
func TestTextExamples(t *testing.T) {
	x := strings.Repeat("x", 250)
	for _, test := range []struct {
		a, b        string
		edit        int
		alike, jaro api.Ratio
	}{
		{"kitten", "sitting", 3, of(4, 7), of(47, 63)},
		{"martha", "marhta", 2, of(2, 3), of(17, 18)},
		{"dixon", "dicksonx", 4, of(1, 2), of(23, 30)},
		{"", "abc", 3, of(0, 1), of(0, 1)}, {"", "", 0, of(1, 1), of(1, 1)}, {"", "a", 1, of(0, 1), of(0, 1)},
		{"a", "a", 0, of(1, 1), of(1, 1)}, {"a", "b", 1, of(0, 1), of(0, 1)}, {"a", "A", 1, of(0, 1), of(0, 1)}, {"a", "aa", 1, of(1, 2), of(5, 6)}, {"a", "ba", 1, of(1, 2), of(0, 1)},
		{"ab", "ba", 2, of(0, 1), of(0, 1)}, {"abc", "cab", 2, of(1, 3), of(0, 1)}, {"abcd", "badc", 3, of(1, 4), of(5, 6)}, {"abcd", "dcba", 4, of(0, 1), of(1, 2)}, {"aaa", "aa", 1, of(2, 3), of(8, 9)},
		{"abcxyz", "bcauvw", 5, of(1, 6), of(1, 2)}, {"abcde", "bcade", 2, of(3, 5), of(13, 15)}, {"aab", "baa", 2, of(1, 3), of(5, 9)},
		{"abcdef", "defabc", 6, of(0, 1), of(0, 1)}, {"abcdefgh", "efghabcd", 8, of(0, 1), of(0, 1)}, {"xabc", "abcx", 2, of(1, 2), of(5, 6)},
		{"\xff", "\xfe", 1, of(0, 1), of(0, 1)}, {"\xc3\xa9", "\xc3\xa8", 1, of(1, 2), of(2, 3)}, {"é", "e", 2, of(0, 1), of(0, 1)}, {"\x00", "", 1, of(0, 1), of(0, 1)},
		{"intention", "execution", 5, of(4, 9), of(86, 135)},
		{x[:200], x[:200], 0, of(1, 1), of(1, 1)}, {x[:200], x[:199], 1, of(199, 200), of(599, 600)}, {x[:201], x[:201], 0, of(1, 1), of(0, 1)}, {x[:201], "x", 200, of(1, 201), of(0, 1)}, {x[:200], "x", 199, of(1, 200), of(401, 600)}, {x[:201], "", 201, of(0, 1), of(0, 1)}, {x[:200], "", 200, of(0, 1), of(0, 1)}, {x, x[:200], 50, of(4, 5), of(0, 1)},
	} {
		for range 2 {
			if got := measure.Edit(test.a, test.b); got != test.edit {
				t.Errorf("Edit(%q, %q): %d", test.a, test.b, got)
			}
			if got := measure.Alike(test.a, test.b); got != test.alike {
				t.Errorf("Alike(%q, %q): %v", test.a, test.b, got)
			}
			if got := measure.Jaro(test.a, test.b); got != test.jaro {
				t.Errorf("Jaro(%q, %q): %v", test.a, test.b, got)
			}
			test.a, test.b = test.b, test.a
		}
	}
}

// P4.1, D2: the lists of the chapter's example, and edges: empty lists, elements that are there twice, other orders, and empty texts as elements.
func TestJaccardExamples(t *testing.T) {
	for _, test := range []struct {
		a, b []string
		want api.Ratio
	}{
		{[]string{"a", "b"}, []string{"b", "c", "d"}, of(1, 4)},
		{nil, nil, of(1, 1)}, {nil, []string{}, of(1, 1)}, {nil, []string{"a"}, of(0, 1)}, {[]string{}, []string{""}, of(0, 1)}, {[]string{""}, []string{""}, of(1, 1)}, {[]string{""}, []string{"a"}, of(0, 1)}, {[]string{""}, []string{"", "a"}, of(1, 2)},
		{[]string{"a"}, []string{"a"}, of(1, 1)}, {[]string{"a"}, []string{"A"}, of(0, 1)}, {[]string{"a"}, []string{"b"}, of(0, 1)}, {[]string{"a"}, []string{"aa"}, of(0, 1)},
		{[]string{"b", "a"}, []string{"a", "b"}, of(1, 1)}, {[]string{"c", "a", "b"}, []string{"b", "c"}, of(2, 3)},
		{[]string{"a", "a"}, []string{"a"}, of(1, 1)}, {[]string{"a", "a", "a"}, []string{"a", "b"}, of(1, 2)}, {[]string{"a", "b", "a"}, []string{"c", "c", "a", "c"}, of(1, 3)}, {[]string{"a", "a"}, []string{"b", "b", "b"}, of(0, 1)},
		{[]string{"a", "b", "c", "d", "e", "f"}, []string{"d", "e", "f", "g"}, of(3, 7)}, {[]string{"a", "b", "c", "d"}, []string{"c", "d"}, of(1, 2)},
		{[]string{"\xff", "not a word"}, []string{"\xff", "\xfe"}, of(1, 3)},
	} {
		if got := measure.Jaccard(test.a, test.b); got != test.want {
			t.Errorf("Jaccard(%q, %q): %v", test.a, test.b, got)
		}
		if got := measure.Jaccard(test.b, test.a); got != test.want {
			t.Errorf("Jaccard(%q, %q): %v", test.b, test.a, got)
		}
	}
}

// P4.1, D4: the numbers of the chapter's examples, and edges: the limits of the tolerance, and the least and the greatest integers.
func TestNearExamples(t *testing.T) {
	for _, test := range []struct {
		a, b, tolerance int
		want            api.Ratio
	}{
		{10, 12, 3, of(1, 2)}, {10, 14, 3, of(0, 1)}, {10, 13, 3, of(1, 4)}, {10, 11, 3, of(3, 4)}, {10, 10, 3, of(1, 1)}, {10, 15, 3, of(0, 1)},
		{5, 5, 0, of(1, 1)}, {5, 6, 0, of(0, 1)}, {5, 4, 0, of(0, 1)}, {0, 0, 0, of(1, 1)}, {-3, 3, 8, of(1, 3)}, {-3, 3, 5, of(0, 1)}, {-3, 3, 6, of(1, 7)},
		{5, 5, -1, of(0, 1)}, {5, 5, 1000000000, of(0, 1)}, {5, 5, maxTolerance, of(1, 1)}, {0, 1, maxTolerance, of(999999999, 1000000000)}, {0, 999999999, maxTolerance, of(1, 1000000000)}, {0, 1000000000, maxTolerance, of(0, 1)}, {0, 1000000001, maxTolerance, of(0, 1)}, {0, 500000000, maxTolerance, of(1, 2)},
		{5, 5, math.MinInt, of(0, 1)}, {5, 5, math.MaxInt, of(0, 1)}, {5, 9, math.MaxInt, of(0, 1)},
		{math.MinInt, math.MaxInt, maxTolerance, of(0, 1)}, {math.MinInt, math.MinInt, 0, of(1, 1)}, {math.MaxInt, math.MaxInt, 7, of(1, 1)}, {math.MinInt, math.MinInt + 1, 1, of(1, 2)}, {math.MaxInt, math.MaxInt - 2, 3, of(1, 2)}, {math.MinInt, 0, 10, of(0, 1)}, {math.MaxInt, -1, 10, of(0, 1)}, {math.MinInt, 1, 0, of(0, 1)}, {math.MinInt, math.MaxInt, 0, of(0, 1)}, {math.MinInt, math.MaxInt, 1, of(0, 1)}, {math.MinInt + 1, math.MaxInt, 2, of(0, 1)}, {1 << 32, 0, 3, of(0, 1)}, {1 << 62, -1 << 62, 3, of(0, 1)},
	} {
		if got := measure.Near(test.a, test.b, test.tolerance); got != test.want {
			t.Errorf("Near(%d, %d, %d): %v", test.a, test.b, test.tolerance, got)
		}
		if got := measure.Near(test.b, test.a, test.tolerance); got != test.want {
			t.Errorf("Near(%d, %d, %d): %v", test.b, test.a, test.tolerance, got)
		}
	}
}

// P4.1, D5: the values of the chapter's examples, and edges, that have a similarity.
func TestOfExamples(t *testing.T) {
	for _, test := range []struct {
		measure, tolerance int
		a, b               api.Value
		want               api.Ratio
	}{
		{api.MeasureJaccard, 0, text("Ann Lee"), text("LEE, Ann"), of(1, 1)},
		{api.MeasureJaccard, 0, text("Ann Lee"), text("ann"), of(1, 2)}, {api.MeasureJaccard, 0, text("a-b-a"), text("B c D"), of(1, 4)}, {api.MeasureJaccard, 0, text(""), text("?!"), of(1, 1)}, {api.MeasureJaccard, 0, text(""), text("a"), of(0, 1)}, {api.MeasureJaccard, -1, text("a"), text("a"), of(1, 1)},
		{api.MeasureEdit, 0, text("KITTEN"), text("sitting!"), of(4, 7)}, {api.MeasureEdit, 0, text("Ann  Lee"), text("-ann-lee-"), of(1, 1)}, {api.MeasureEdit, 0, text("a b"), text("ab"), of(2, 3)}, {api.MeasureEdit, 0, text(""), text("\xff\x00"), of(1, 1)}, {api.MeasureEdit, 0, text(""), text("a"), of(0, 1)}, {api.MeasureEdit, math.MaxInt, text("a"), text("A"), of(1, 1)},
		{api.MeasureJaro, 0, text("Martha"), text("MARHTA."), of(17, 18)}, {api.MeasureJaro, 0, text("--"), text(""), of(1, 1)}, {api.MeasureJaro, 0, text("a"), text(""), of(0, 1)}, {api.MeasureJaro, 0, text(strings.Repeat("X", 200)), text(strings.Repeat("x", 200)), of(1, 1)}, {api.MeasureJaro, math.MinInt, text("a"), text("a"), of(1, 1)},
		{api.MeasureNear, 3, number(10), number(12), of(1, 2)}, {api.MeasureNear, 3, day(10), day(12), of(1, 2)}, {api.MeasureNear, 3, number(-1), number(4), of(0, 1)}, {api.MeasureNear, 0, day(0), day(0), of(1, 1)}, {api.MeasureNear, maxTolerance, number(-500000000), number(0), of(1, 2)}, {api.MeasureNear, maxTolerance, number(-1000000000), number(1000000000), of(0, 1)}, {api.MeasureNear, 73048, day(0), day(73048), of(1, 73049)},
		{api.MeasureEqual, 0, text("a"), text("a"), of(1, 1)}, {api.MeasureEqual, 0, text("a"), text("A"), of(0, 1)}, {api.MeasureEqual, 0, text(""), text(""), of(1, 1)}, {api.MeasureEqual, 0, number(1), number(1), of(1, 1)}, {api.MeasureEqual, 0, number(1), number(2), of(0, 1)}, {api.MeasureEqual, 0, number(1), day(1), of(0, 1)}, {api.MeasureEqual, 0, number(1), flag(1), of(0, 1)}, {api.MeasureEqual, 0, text("1"), number(1), of(0, 1)}, {api.MeasureEqual, 0, flag(0), flag(0), of(1, 1)}, {api.MeasureEqual, 0, flag(0), flag(1), of(0, 1)}, {api.MeasureEqual, 0, day(9), day(9), of(1, 1)}, {api.MeasureEqual, -7, day(9), day(8), of(0, 1)},
	} {
		for range 2 {
			got, err := measure.Of(test.measure, test.tolerance, test.a, test.b)
			if got != test.want || err != api.OK {
				t.Errorf("Of(%d, %d, %v, %v): %v %d", test.measure, test.tolerance, test.a, test.b, got, err)
			}
			test.a, test.b = test.b, test.a
		}
	}
}

// D5: a null has the similarity 0/1 with every value, another null among them, by every measure; it comes before the kinds that a measure does not take.
func TestOfNull(t *testing.T) {
	for chosen := api.MeasureEqual; chosen <= api.MeasureNear; chosen++ {
		for _, v := range []api.Value{{}, text(""), text("a"), number(0), day(0), flag(0), flag(1)} {
			for _, pair := range [][2]api.Value{{v, {}}, {{}, v}} {
				got, err := measure.Of(chosen, 2, pair[0], pair[1])
				if got != of(0, 1) || err != api.OK {
					t.Errorf("Of(%d, 2, %v, %v): %v %d", chosen, pair[0], pair[1], got, err)
				}
			}
		}
	}
}

// D5: the errors, each in the order in which it is named.
func TestOfErrors(t *testing.T) {
	null, far := api.Value{}, number(1000000001)
	for _, test := range []struct {
		measure, tolerance int
		a, b               api.Value
		want               api.Errno
	}{
		{0, 0, text("a"), text("a"), api.ErrArg}, {6, 0, text("a"), text("a"), api.ErrArg}, {-1, 0, text("a"), text("a"), api.ErrArg}, {math.MinInt, 0, null, null, api.ErrArg}, {math.MaxInt, 0, null, null, api.ErrArg}, {1 << 32, 0, null, null, api.ErrArg}, {1<<32 + 1, 0, null, null, api.ErrArg},
		{api.MeasureEqual, 0, far, null, api.ErrArg}, {api.MeasureEqual, 0, far, far, api.ErrArg}, {api.MeasureEdit, 0, text(strings.Repeat("x", 201)), text("a"), api.ErrArg}, {api.MeasureJaro, 0, text(strings.Repeat("x", 201)), text("a"), api.ErrArg}, {api.MeasureJaccard, 0, far, text("a"), api.ErrArg}, {api.MeasureNear, 1, day(-1), day(0), api.ErrArg}, {api.MeasureNear, 1, day(73049), text("a"), api.ErrArg}, {api.MeasureEdit, 0, flag(2), null, api.ErrArg},
		{api.MeasureEqual, 0, api.Value{Kind: 5}, api.Value{Kind: 5}, api.ErrArg}, {api.MeasureEqual, 0, api.Value{Kind: -1}, null, api.ErrArg}, {api.MeasureEqual, 0, api.Value{N: 1}, null, api.ErrArg}, {api.MeasureEqual, 0, api.Value{Text: "a"}, null, api.ErrArg}, {api.MeasureEdit, 0, api.Value{Kind: api.KindText, N: 1, Text: "a"}, text("a"), api.ErrArg}, {api.MeasureNear, 0, api.Value{Kind: api.KindNumber, N: 1, Text: "a"}, number(1), api.ErrArg},
		{api.MeasureNear, -1, number(1), number(1), api.ErrArg}, {api.MeasureNear, 1000000000, number(1), number(1), api.ErrArg}, {api.MeasureNear, -1, null, null, api.ErrArg}, {api.MeasureNear, 1000000000, null, day(1), api.ErrArg}, {api.MeasureNear, -1, text("a"), flag(1), api.ErrArg}, {api.MeasureNear, math.MinInt, day(1), day(1), api.ErrArg}, {api.MeasureNear, math.MaxInt, day(1), day(1), api.ErrArg},
		{api.MeasureEdit, 0, text("a"), number(1), api.ErrType}, {api.MeasureEdit, 0, number(1), number(1), api.ErrType}, {api.MeasureEdit, -1, day(1), text("a"), api.ErrType}, {api.MeasureJaccard, 0, flag(0), flag(0), api.ErrType}, {api.MeasureJaccard, 0, text(""), flag(0), api.ErrType}, {api.MeasureJaro, 0, day(1), day(1), api.ErrType}, {api.MeasureJaro, 0, text("a"), day(1), api.ErrType},
		{api.MeasureNear, 3, number(1), day(1), api.ErrType}, {api.MeasureNear, 3, text("a"), text("a"), api.ErrType}, {api.MeasureNear, 3, flag(1), flag(1), api.ErrType}, {api.MeasureNear, 3, flag(1), number(1), api.ErrType}, {api.MeasureNear, 3, text("1"), number(1), api.ErrType}, {api.MeasureNear, 0, day(1), text(""), api.ErrType}, {api.MeasureNear, maxTolerance, day(1), flag(1), api.ErrType},
	} {
		for range 2 {
			got, err := measure.Of(test.measure, test.tolerance, test.a, test.b)
			if err != test.want || got != (api.Ratio{}) {
				t.Errorf("Of(%d, %d, %v, %v): %v %d", test.measure, test.tolerance, test.a, test.b, got, err)
			}
			test.a, test.b = test.b, test.a
		}
	}
}

// neighbours returns the texts to which one edit leads: an insertion, a deletion or a replacement of a byte.
func neighbours(s, alphabet string) []string {
	var out []string
	for i := 0; i <= len(s); i++ {
		for k := range len(alphabet) {
			out = append(out, s[:i]+alphabet[k:k+1]+s[i:])
			if i < len(s) {
				out = append(out, s[:i]+alphabet[k:k+1]+s[i+1:])
			}
		}
		if i < len(s) {
			out = append(out, s[:i]+s[i+1:])
		}
	}
	return out
}

// distances returns how many edits lead from a text to each text of an alphabet with up to a number of bytes.
func distances(from, alphabet string, length int) map[string]int {
	steps := map[string]int{from: 0}
	for queue := []string{from}; len(queue) > 0; queue = queue[1:] {
		for _, s := range neighbours(queue[0], alphabet) {
			if _, isKnown := steps[s]; !isKnown && len(s) <= length {
				steps[s] = steps[queue[0]] + 1
				queue = append(queue, s)
			}
		}
	}
	return steps
}

// P4.1, D1: the edit distance is the least number of edits that lead from one text to the other, found by trying all edits.
func TestEditIsLeast(t *testing.T) {
	for _, test := range []struct {
		alphabet string
		length   int
	}{{"a\xff", 6}, {"abc", 4}, {"\x00bcd", 3}} {
		texts := shortTexts(test.alphabet, test.length)
		for _, a := range texts {
			steps := distances(a, test.alphabet, test.length+1)
			for _, b := range texts {
				if got := measure.Edit(a, b); got != steps[b] {
					t.Fatalf("Edit(%q, %q): %d", a, b, got)
				}
			}
		}
	}
}

// P4.1, D1, D3: all functions of texts agree with the models.
func TestTextsAgree(t *testing.T) {
	texts := sample()
	for _, list := range [][]string{texts, shortTexts("ab", 6), shortTexts("abcd", 3)} {
		for _, a := range list {
			for _, b := range list {
				if got := measure.Edit(a, b); got != editModel(a, b) {
					t.Fatalf("Edit(%q, %q): %d", a, b, got)
				}
				if got := measure.Alike(a, b); got != alikeModel(a, b) {
					t.Fatalf("Alike(%q, %q): %v", a, b, got)
				}
				if got := measure.Jaro(a, b); got != jaroModel(a, b) {
					t.Fatalf("Jaro(%q, %q): %v", a, b, got)
				}
			}
		}
	}
}

// D3: the bytes that are matched can differ in an odd number of places; half of it is not rounded.
func TestJaroOfOddDifferences(t *testing.T) {
	for _, test := range []struct {
		a, b string
		want api.Ratio
	}{
		{"abcxyz", "bcauvw", of(1, 2)}, {"abcdef", "bcadef", of(11, 12)}, {"abcdefg", "bcadefg", of(13, 14)}, {"abcdefgh", "bcadefgh", of(15, 16)}, {"abcdefgh", "bcadefghi", of(389, 432)},
	} {
		if got := measure.Jaro(test.a, test.b); got != test.want {
			t.Errorf("Jaro(%q, %q): %v", test.a, test.b, got)
		}
		if got := measure.Jaro(test.b, test.a); got != test.want {
			t.Errorf("Jaro(%q, %q): %v", test.b, test.a, got)
		}
	}
}

// D3: a byte is matched with an equal one that is at most half of the greater length, minus 1, away, and with no other.
func TestJaroReach(t *testing.T) {
	for length := 1; length <= 200; length++ {
		reach := max(0, length/2-1)
		for _, shift := range []int{0, 1, reach - 1, reach, reach + 1, length - 1} {
			if shift < 0 || shift >= length {
				continue
			}
			a := "x" + strings.Repeat("-", length-1)
			b := strings.Repeat("+", shift) + "x" + strings.Repeat("+", length-shift-1)
			want := of(0, 1)
			if shift <= reach {
				want = exact(new(big.Rat).Add(fraction(2, 3*length), fraction(1, 3)))
			}
			if got := measure.Jaro(a, b); got != want || measure.Jaro(b, a) != want {
				t.Errorf("%d bytes, %d away: %v", length, shift, got)
			}
			if got := measure.Jaro("x", b); got != jaroModel("x", b) || measure.Jaro(b, "x") != got {
				t.Errorf("one byte and %q: %v", b, got)
			}
		}
	}
}

// P4.2: the edit distance is a metric within its bounds, for texts of all kinds.
func TestMetric(t *testing.T) {
	for _, list := range [][]string{sample(), shortTexts("ab", 5), shortTexts("abc", 3)} {
		for i, a := range list {
			for k, b := range list {
				d := measure.Edit(a, b)
				if d != measure.Edit(b, a) || (d == 0) != (a == b) {
					t.Fatalf("Edit(%q, %q): %d", a, b, d)
				}
				least, most := max(len(a), len(b))-min(len(a), len(b)), max(len(a), len(b))
				if d < least || d > most {
					t.Fatalf("Edit(%q, %q): %d", a, b, d)
				}
				for n := range 2 {
					c := list[(i*7+k*13+n*29)%len(list)]
					if measure.Edit(a, c) > d+measure.Edit(b, c) {
						t.Fatalf("the triangle of %q, %q, %q", a, b, c)
					}
				}
			}
		}
	}
}

// P4.3: what is before or behind both texts does not change the edit distance, and one more byte anywhere changes it by at most 1.
func TestCommonParts(t *testing.T) {
	parts := []string{"", "a", "b", "ab", "ba", "aab", "\xff", "cab"}
	for _, a := range shortTexts("abc", 3) {
		for _, b := range shortTexts("abc", 3) {
			d := measure.Edit(a, b)
			for _, part := range parts {
				for _, other := range parts {
					if got := measure.Edit(part+a+other, part+b+other); got != d {
						t.Fatalf("Edit(%q, %q): %d", part+a+other, part+b+other, got)
					}
				}
			}
			for i := 0; i <= len(a); i++ {
				for _, c := range []string{"a", "b", "z"} {
					got := measure.Edit(a[:i]+c+a[i:], b)
					if got < d-1 || got > d+1 {
						t.Fatalf("Edit(%q, %q): %d and %d", a[:i]+c+a[i:], b, got, d)
					}
				}
			}
		}
	}
}

// P4.3: the same for long texts.
func TestCommonPartsOfLongTexts(t *testing.T) {
	next := numbers()
	for range 60 {
		a := mixedText(next, "abcd", 50+next(200))
		b := changed(next, a, "abcd", next(40))
		part := mixedText(next, "abcd", next(300))
		d := measure.Edit(a, b)
		if measure.Edit(part+a, part+b) != d || measure.Edit(a+part, b+part) != d || measure.Edit(part+a+part, part+b+part) != d {
			t.Fatalf("a common part changes Edit(%q, %q)", a, b)
		}
		at := next(len(a) + 1)
		if got := measure.Edit(a[:at]+"c"+a[at:], b); got < d-1 || got > d+1 {
			t.Fatalf("one more byte changes Edit(%q, %q) from %d to %d", a, b, d, got)
		}
	}
}

// P4.4: the similarities of texts are valid, from 0 to 1 and symmetric, and 1/1 for equal texts, Jaro only up to 200 bytes.
func TestSimilaritiesOfTexts(t *testing.T) {
	texts := append(sample(), shortTexts("ab\xff", 3)...)
	for _, a := range texts {
		for _, b := range texts {
			alike, jaro := measure.Alike(a, b), measure.Jaro(a, b)
			if !isShare(alike) || alike != measure.Alike(b, a) {
				t.Fatalf("Alike(%q, %q): %v", a, b, alike)
			}
			if !isShare(jaro) || jaro != measure.Jaro(b, a) {
				t.Fatalf("Jaro(%q, %q): %v", a, b, jaro)
			}
			if (alike == of(1, 1)) != (a == b) {
				t.Fatalf("Alike(%q, %q): %v", a, b, alike)
			}
		}
		if want := len(a) <= 200; (measure.Jaro(a, strings.Clone(a)) == of(1, 1)) != want {
			t.Fatalf("Jaro(%q, itself)", a)
		}
	}
}

// edgeLists returns lists whose sets are all sets of some elements, in several orders and with elements that are there twice.
func edgeLists() [][]string {
	elements := []string{"", "a", "b", "ab", "\xff"}
	out := [][]string{nil, {"a", "a"}, {"b", "a", "b"}, {"a", "b", "b", "a"}, {"ab", "", "ab", ""}, {"A"}, {"c", "d", "e", "f", "g"}, {"a b", "b a"}, {"a", "c", "e", "g"}}
	for chosen := range 1 << len(elements) {
		list := []string{}
		for i, element := range elements {
			if chosen>>i&1 == 1 {
				list = append(list, element)
			}
		}
		reversed := slices.Clone(list)
		slices.Reverse(reversed)
		out = append(out, list, append(reversed, list...))
	}
	return out
}

// P4.4, P4.5: Jaccard agrees with the model, is symmetric, is 1/1 exactly for equal sets, and 0/1 exactly for sets that have nothing in common but are not both empty.
func TestSets(t *testing.T) {
	for _, a := range edgeLists() {
		for _, b := range edgeLists() {
			got := measure.Jaccard(a, b)
			if got != jaccardModel(a, b) || got != measure.Jaccard(b, a) || !isShare(got) {
				t.Fatalf("Jaccard(%q, %q): %v", a, b, got)
			}
			if (got == of(1, 1)) != slices.Equal(once(a), once(b)) {
				t.Fatalf("Jaccard(%q, %q): %v", a, b, got)
			}
			inBoth := slices.ContainsFunc(a, func(element string) bool { return slices.Contains(b, element) })
			if (got == of(0, 1)) != (!inBoth && len(a)+len(b) > 0) {
				t.Fatalf("Jaccard(%q, %q): %v", a, b, got)
			}
		}
	}
}

// P4.5: 1 minus Jaccard obeys the triangle inequality.
func TestSetsTriangle(t *testing.T) {
	lists := edgeLists()
	for _, a := range lists {
		for _, b := range lists {
			for _, c := range lists {
				ab, bc, ac := measure.Jaccard(a, b), measure.Jaccard(b, c), measure.Jaccard(a, c)
				// 1 - ac <= 1 - ab + 1 - bc, times the denominators.
				left := (ac.Den - ac.Num) * ab.Den * bc.Den
				right := (ab.Den-ab.Num)*ac.Den*bc.Den + (bc.Den-bc.Num)*ac.Den*ab.Den
				if left > right {
					t.Fatalf("the triangle of %q, %q, %q", a, b, c)
				}
			}
		}
	}
}

// haveCommonByte reports whether a byte occurs in both texts.
func haveCommonByte(a, b string) bool {
	for i := range len(a) {
		if strings.IndexByte(b, a[i]) >= 0 {
			return true
		}
	}
	return false
}

// P4.6: Jaro is 0/1 for texts without a common byte, unless both are empty, and 1/1 only for equal ones.
func TestJaroEnds(t *testing.T) {
	texts := append(sample(), shortTexts("abc\xff", 4)...)
	for _, a := range texts {
		for _, b := range texts {
			got := measure.Jaro(a, b)
			if !haveCommonByte(a, b) && a+b != "" && got != of(0, 1) {
				t.Fatalf("Jaro(%q, %q): %v", a, b, got)
			}
			if got == of(1, 1) && a != b {
				t.Fatalf("Jaro(%q, %q): %v", a, b, got)
			}
		}
	}
}

// D3: a text of more than 200 bytes has the similarity 0/1 with every text, whichever of the two it is.
func TestJaroLimit(t *testing.T) {
	long := strings.Repeat("ab", 150)
	for length := 198; length <= 300; length++ {
		for _, other := range []string{"", "a", long[:199], long[:200], long[:201], long[:length]} {
			a := long[:length]
			got, back := measure.Jaro(a, other), measure.Jaro(other, a)
			if isLong := length > 200 || len(other) > 200; isLong && (got != of(0, 1) || back != of(0, 1)) {
				t.Errorf("%d and %d bytes: %v %v", length, len(other), got, back)
			} else if !isLong && other != "" && (got == of(0, 1) || back == of(0, 1)) {
				t.Errorf("%d and %d bytes: %v %v", length, len(other), got, back)
			}
		}
	}
}

// edgeIntegers returns integers of all sizes: small ones, and those around the limits and the ends.
func edgeIntegers() []int {
	out := []int{math.MinInt, math.MinInt + 1, math.MinInt + 5, -1 << 62, -1 << 32, -1000000001, -1000000000, -999999999, 999999998, 999999999, 1000000000, 1000000001, 1 << 31, 1 << 32, 1 << 62, math.MaxInt - 4, math.MaxInt - 1, math.MaxInt}
	for n := -6; n <= 6; n++ {
		out = append(out, n)
	}
	slices.Sort(out)
	return out
}

// P4.1, P4.4: Near agrees with the model for integers and tolerances of all sizes, is valid, from 0 to 1 and symmetric, and 1/1 for equal integers if the tolerance is permitted.
func TestNearAgrees(t *testing.T) {
	for _, a := range edgeIntegers() {
		for _, b := range edgeIntegers() {
			for _, tolerance := range edgeIntegers() {
				got := measure.Near(a, b, tolerance)
				if got != nearModel(a, b, tolerance) || got != measure.Near(b, a, tolerance) || !isShare(got) {
					t.Fatalf("Near(%d, %d, %d): %v", a, b, tolerance, got)
				}
				isPermitted := tolerance >= 0 && tolerance <= maxTolerance
				if a == b && (got == of(1, 1)) != isPermitted {
					t.Fatalf("Near(%d, %d, %d): %v", a, b, tolerance, got)
				}
			}
		}
	}
}

// P4.7: Near is not less for integers that are nearer, nor for a greater tolerance, and is not 0/1 exactly if the distance is at most the tolerance.
func TestNearness(t *testing.T) {
	integers := edgeIntegers()
	tolerances := []int{0, 1, 2, 3, 5, 6, 100, 999999998, maxTolerance}
	for i, a := range integers {
		for k := i; k < len(integers); k++ {
			b := integers[k]
			for n, tolerance := range tolerances {
				got := measure.Near(a, b, tolerance)
				if k > i && ratio.Cmp(got, measure.Near(a, integers[k-1], tolerance)) > 0 {
					t.Fatalf("Near(%d, %d, %d) is greater than nearer", a, b, tolerance)
				}
				if n > 0 && ratio.Cmp(got, measure.Near(a, b, tolerances[n-1])) < 0 {
					t.Fatalf("Near(%d, %d, %d) is less than with a lesser tolerance", a, b, tolerance)
				}
				distance := new(big.Int).Sub(big.NewInt(int64(b)), big.NewInt(int64(a)))
				if isNear := distance.Cmp(big.NewInt(int64(tolerance))) <= 0; (got != of(0, 1)) != isNear {
					t.Fatalf("Near(%d, %d, %d): %v", a, b, tolerance, got)
				}
			}
		}
	}
}

// P4.7: the same for all small distances and tolerances.
func TestNearnessOfSmall(t *testing.T) {
	for tolerance := range 60 {
		for distance := range 70 {
			for _, a := range []int{0, -30, math.MinInt, math.MaxInt - 100} {
				got := measure.Near(a, a+distance, tolerance)
				if got != nearModel(a, a+distance, tolerance) || (got != of(0, 1)) != (distance <= tolerance) {
					t.Fatalf("Near(%d, %d, %d): %v", a, a+distance, tolerance, got)
				}
				if ratio.Cmp(got, measure.Near(a, a+distance+1, tolerance)) < 0 || ratio.Cmp(got, measure.Near(a, a+distance, tolerance+1)) > 0 {
					t.Fatalf("Near(%d, %d, %d) beside others", a, a+distance, tolerance)
				}
			}
		}
	}
}

// edgeValues returns values of all kinds and at their limits, and values that are not valid.
func edgeValues() []api.Value {
	out := []api.Value{{}, {N: 1}, {Text: "a"}, {Kind: 5}, {Kind: -1}, {Kind: 6, N: 1, Text: "a"}, {Kind: api.KindText, N: 1}, {Kind: api.KindNumber, Text: "1"}, {Kind: api.KindDay, N: 1, Text: "x"}, {Kind: api.KindFlag, N: 1, Text: "x"}, flag(0), flag(1), flag(2), flag(-1)}
	for _, n := range []int{math.MinInt, -1000000001, -1000000000, -1, 0, 1, 2, 73047, 73048, 73049, 999999999, 1000000000, 1000000001, math.MaxInt} {
		out = append(out, number(n), day(n))
	}
	for _, s := range []string{"", " ", "\xff", "a", "A", "Ann Lee", "LEE, Ann", "lee ann lee", "kitten", "Sitting", "MARTHA", "marhta", "1", "null", strings.Repeat("x", 200), strings.Repeat("X y", 66), strings.Repeat("x", 201)} {
		out = append(out, text(s))
	}
	return out
}

// P4.1, P4.8: Of agrees with the model for all measures, values and tolerances; it does not depend on the order of the values, is from 0 to 1, and is 1/1 for equal values that are not null and have the measure.
func TestOfAgrees(t *testing.T) {
	values := edgeValues()
	for chosen := -2; chosen <= 8; chosen++ {
		for _, tolerance := range []int{math.MinInt, -1, 0, 3, maxTolerance, 1000000000, math.MaxInt} {
			for _, a := range values {
				for _, b := range values {
					got, err := measure.Of(chosen, tolerance, a, b)
					want, wantErr := ofModel(chosen, tolerance, a, b)
					if got != want || err != wantErr {
						t.Fatalf("Of(%d, %d, %v, %v): %v %d", chosen, tolerance, a, b, got, err)
					}
					back, backErr := measure.Of(chosen, tolerance, b, a)
					if back != got || backErr != err {
						t.Fatalf("Of(%d, %d, %v, %v): %v %d in the other order", chosen, tolerance, a, b, back, backErr)
					}
					if err == api.OK && !isShare(got) {
						t.Fatalf("Of(%d, %d, %v, %v): %v", chosen, tolerance, a, b, got)
					}
					if err == api.OK && a == b && a.Kind != api.KindNull && got != of(1, 1) {
						t.Fatalf("Of(%d, %d, %v, itself): %v", chosen, tolerance, a, got)
					}
				}
			}
		}
	}
}

// P1: with an error, there is no ratio; without one, there is a valid one.
func TestErrorsComeAlone(t *testing.T) {
	count := 0
	for _, chosen := range edgeIntegers() {
		for _, a := range edgeValues() {
			for _, b := range edgeValues() {
				got, err := measure.Of(chosen, chosen, a, b)
				if err != api.OK && got != (api.Ratio{}) || err == api.OK && !ratio.Valid(got) {
					t.Fatalf("Of(%d, %d, %v, %v): %v %d", chosen, chosen, a, b, got, err)
				}
				if err != api.OK && err != api.ErrArg && err != api.ErrType {
					t.Fatalf("Of(%d, %d, %v, %v): %d", chosen, chosen, a, b, err)
				}
				if err == api.OK {
					count++
				}
			}
		}
	}
	if count == 0 {
		t.Error("only errors")
	}
}

// P1: the functions end for large texts and lists, too.
func TestLarge(t *testing.T) {
	large := strings.Repeat("abcde", 1000000)
	if measure.Edit(large, "") != len(large) || measure.Edit("", large) != len(large) || measure.Edit(large, large[:len(large)-7]) != 7 || measure.Edit(large[3:], large) != 3 {
		t.Error("the edit distance of large texts")
	}
	if measure.Alike(large, large) != of(1, 1) || measure.Alike(large, large[1:]) != of(4999999, 5000000) || measure.Alike(large, "") != of(0, 1) || measure.Jaro(large, large) != of(0, 1) {
		t.Error("the similarity of large texts")
	}
	a, b := strings.Repeat("ab", 1500), strings.Repeat("ba", 1500)
	if measure.Edit(a, b) != 2 || measure.Edit(a, strings.Repeat("c", 2000)) != 3000 {
		t.Error("the edit distance of long texts")
	}
	var list []string
	for i := range 200000 {
		list = append(list, large[i%5:i%5+1]+string([]byte{byte(i), byte(i >> 8), byte(i >> 16)}))
	}
	if measure.Jaccard(list, list[50000:]) != of(3, 4) || measure.Jaccard(list[50000:], slices.Concat(list, list)) != of(3, 4) || measure.Jaccard(list, nil) != of(0, 1) {
		t.Error("the similarity of large lists")
	}
}

// results returns what all functions return for many arguments.
func results() []api.Ratio {
	var out []api.Ratio
	texts, lists, integers, values := sample(), edgeLists(), edgeIntegers(), edgeValues()
	for i, a := range texts {
		b := texts[i*7%len(texts)]
		out = append(out, of(measure.Edit(a, b), 1), measure.Alike(a, b), measure.Jaro(a, b))
	}
	for i, a := range lists {
		out = append(out, measure.Jaccard(a, lists[i*5%len(lists)]))
	}
	for i, a := range integers {
		out = append(out, measure.Near(a, integers[i*5%len(integers)], i))
	}
	for i, a := range values {
		similarity, err := measure.Of(i%7, i, a, values[i*11%len(values)])
		out = append(out, similarity, of(int(err), 1))
	}
	return out
}

// P3: calls with equal arguments have equal results, whatever was called in between.
func TestIndependence(t *testing.T) {
	first := results()
	for range 3 {
		if !slices.Equal(results(), first) {
			t.Fatal("the results change")
		}
	}
}

// DOC.md, Rules: the lists that are given stay as they are, also beyond their lengths.
func TestListsAreKept(t *testing.T) {
	for _, list := range edgeLists() {
		for _, other := range edgeLists() {
			a := append(slices.Clone(list), "more", "and more")
			b := append(slices.Clone(other), "other", "and other")
			measure.Jaccard(a[:len(list)], b[:len(other)])
			if !slices.Equal(a, append(slices.Clone(list), "more", "and more")) || !slices.Equal(b, append(slices.Clone(other), "other", "and other")) {
				t.Fatalf("Jaccard(%q, %q) changes a list", list, other)
			}
		}
	}
}
