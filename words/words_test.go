package words_test

import (
	"math"
	"regexp"
	"slices"
	"strconv"
	"strings"
	"testing"

	"cleanse/words"
)

// pattern finds the words of a text. It reads runes, among which the bytes from 128 on are never letters or digits of ASCII.
var pattern = regexp.MustCompile(`[A-Za-z0-9]+`)

// wordsModel returns the words of a text, worked out apart from the program.
func wordsModel(text string) []string {
	out := pattern.FindAllString(text, -1)
	for i, word := range out {
		lower := []byte(word)
		for k, c := range lower {
			if c >= 'A' && c <= 'Z' {
				lower[k] = c + 32
			}
		}
		out[i] = string(lower)
	}
	return out
}

// foldModel is Fold, worked out apart from the program.
func foldModel(text string) string { return strings.Join(wordsModel(text), " ") }

// listModel returns a list sorted, each element once.
func listModel(list []string) []string {
	out := slices.Clone(list)
	slices.Sort(out)
	return slices.Compact(out)
}

// gramsModel is Grams, worked out apart from the program.
func gramsModel(text string, n int) []string {
	folded := foldModel(text)
	if n < 1 || n > 8 || folded == "" {
		return nil
	}
	if len(folded) < n {
		return []string{folded}
	}
	var out []string
	for i := 0; i+n <= len(folded); i++ {
		out = append(out, folded[i:i+n])
	}
	return listModel(out)
}

// ascending reports whether each element is less than the next one.
func ascending(list []string) bool {
	for i := range list {
		if i > 0 && strings.Compare(list[i-1], list[i]) >= 0 {
			return false
		}
	}
	return true
}

// commonModel is Common, worked out apart from the program.
func commonModel(a, b []string) int {
	if !ascending(a) || !ascending(b) {
		return 0
	}
	count := 0
	for _, element := range a {
		if slices.Contains(b, element) {
			count++
		}
	}
	return count
}

// separators returns the bytes that are neither letters nor digits.
func separators() []byte {
	var out []byte
	for c := range 256 {
		if !pattern.MatchString(string([]byte{byte(c)})) {
			out = append(out, byte(c))
		}
	}
	return out
}

// shortTexts returns all texts of an alphabet with up to a number of bytes.
func shortTexts(alphabet string, length int) []string {
	out := []string{""}
	last := out
	for range length {
		var longer []string
		for _, text := range last {
			for i := range len(alphabet) {
				longer = append(longer, text+alphabet[i:i+1])
			}
		}
		out = append(out, longer...)
		last = longer
	}
	return out
}

// edgeTexts returns texts of each kind: empty ones, ones without words, with words around the lengths of grams, with repeated words, and with bytes beside the letters and digits and from 128 on.
func edgeTexts() []string {
	out := []string{"", " ", "  ", "-", "?!", "\x00", "\n\t", "\x80", "\xff\xfe", "é", "ÉÈ", "日本", "ſ", "\u212a", "İ", "１", "a", "A", "z", "Z", "0", "9", "a b", "A-B", " a", "a ", " a ", "  Ann-Marie  O'Neil 2 ", "b a B", "b a B 10 9 a", "Ann Ann ANN ann", "x1 1x x 1", "aaaa", "AaAa aA", "abab abab", "a\xc3\xa9b", "a\u017fb", "k\u212ak", "@A[Z`a{z/0:9", "@[`{/:", "A@", "[Z", "a`", "{z", "0/", ":9", "a\x00b", "a\x7fb", "a\x80b", "a\xffb", "\xe1a\xda", "a b c d e f g h i", "abc abcd bcd bc cd", "the cat the dog", "2 10 1 02", "a.b,c;d", "O''Neil", "AB", "aB", "Ab", "ab"}
	for length := 1; length <= 10; length++ {
		digits := "0123456789"[:length]
		out = append(out, digits, "-"+digits, digits+"-", strings.Repeat("Q", length), strings.Repeat("a ", length), strings.Repeat(" ", length))
	}
	for _, unit := range []string{"x", "X", " ", "ab ", "\xff", "é", "0-"} {
		out = append(out, strings.Repeat(unit, 201))
	}
	var every []byte
	for c := range 256 {
		every = append(every, byte(c))
		out = append(out, string([]byte{byte(c)}), string([]byte{'a', byte(c), 'B'}), string([]byte{byte(c), byte(c), '5', byte(c)}))
	}
	return append(out, string(every), string(every)+string(every))
}

// edgeNumbers returns numbers of bytes of grams: all that give grams, and those around them and far from them.
func edgeNumbers() []int {
	out := []int{math.MinInt, math.MinInt + 1, -1 << 32, math.MaxInt, math.MaxInt - 1, 1 << 32, 1<<32 + 1, 1 << 62, 256, 257, 265, -255, 100, -100}
	for n := -9; n <= 17; n++ {
		out = append(out, n)
	}
	return out
}

// sortedLists returns all sorted lists of some elements, among them ones that begin alike, and the empty one.
func sortedLists() [][]string {
	elements := []string{"", "\x00", " ", "0", "A", "a", "a b", "aa", "b", "\xff"}
	var out [][]string
	for set := range 1 << len(elements) {
		list := []string{}
		for i, element := range elements {
			if set>>i&1 == 1 {
				list = append(list, element)
			}
		}
		out = append(out, list)
	}
	return append(out, nil)
}

// unsortedLists returns lists that are not sorted: by one pair at the beginning, in the middle or at the end, or by an element that is there twice.
func unsortedLists() [][]string {
	return [][]string{{"a", "a"}, {"", ""}, {"b", "a"}, {"a", ""}, {"a", "A"}, {"aa", "a"}, {"b", "aa"}, {"\xff", "a"}, {"a", "b", "b"}, {"a", "a", "b"}, {"b", "a", "c"}, {"a", "c", "b"}, {"a", "b", "a"}, {"c", "b", "a"}, {"9", "10"}, {"a", "b", "c", "d", "d"}, {"a", "b", "d", "c", "e"}, {"a", "a", "a"}}
}

// P3.1, C1: the folded texts of the chapter's example and of edges.
func TestFoldExamples(t *testing.T) {
	for _, test := range []struct{ text, want string }{
		{"  Ann-Marie  O'Neil 2 ", "ann marie o neil 2"},
		{"", ""}, {" ", ""}, {"?!-\n\x00\xff", ""}, {"a", "a"}, {"Z", "z"}, {"0", "0"}, {"aZ09", "az09"},
		{"a1 1a", "a1 1a"}, {"A\tB\nC\x00D", "a b c d"}, {"a  --  b", "a b"}, {"a a A", "a a a"},
		{"@A[Z`a{z/0:9", "a z a z 0 9"}, {"a@b[c`d{e/f:g", "a b c d e f g"},
		{"caf\xc3\xa9s", "caf s"}, {"\x80a\xff", "a"}, {"a\x80b\xffc", "a b c"}, {"\xc1\xe1", ""}, {"k\u212ak", "k k"}, {"s\u017fs", "s s"}, {"１a", "a"},
		{"ABCDEFGHIJKLMNOPQRSTUVWXYZ", "abcdefghijklmnopqrstuvwxyz"}, {"abcdefghijklmnopqrstuvwxyz", "abcdefghijklmnopqrstuvwxyz"}, {"0123456789", "0123456789"},
	} {
		if got := words.Fold(test.text); got != test.want {
			t.Errorf("Fold(%q): %q", test.text, got)
		}
	}
}

// P3.1, C1: the tokens of the chapter's example and of edges; digits come before letters, and a beginning comes first.
func TestTokensExamples(t *testing.T) {
	for _, test := range []struct {
		text string
		want []string
	}{
		{"b a B", []string{"a", "b"}},
		{"", nil}, {" - ", nil}, {"\xff\x80", nil}, {"a", []string{"a"}}, {"A a A", []string{"a"}},
		{"b a B 10 9 a", []string{"10", "9", "a", "b"}}, {"aa a ab b", []string{"a", "aa", "ab", "b"}},
		{"a9 a0 az a", []string{"a", "a0", "a9", "az"}}, {"Zoe-Ann zoe ANN'S", []string{"ann", "s", "zoe"}},
	} {
		if got := words.Tokens(test.text); !slices.Equal(got, test.want) {
			t.Errorf("Tokens(%q): %q", test.text, got)
		}
	}
}

// P3.1, C2: the grams of the chapter's examples and of edges, among them the limits of n and texts that are as long as n, or shorter.
func TestGramsExamples(t *testing.T) {
	for _, test := range []struct {
		text string
		n    int
		want []string
	}{
		{"ab c", 2, []string{" c", "ab", "b "}}, {"a", 3, []string{"a"}},
		{"ab", 0, nil}, {"ab", -1, nil}, {"ab", 9, nil}, {"abcdefghijk", 9, nil}, {"ab", math.MinInt, nil}, {"ab", math.MaxInt, nil},
		{"ba b", 1, []string{" ", "a", "b"}}, {"abcdefghi", 8, []string{"abcdefgh", "bcdefghi"}},
		{"abcdefgh", 8, []string{"abcdefgh"}}, {"abcdefg", 8, []string{"abcdefg"}}, {"a b", 8, []string{"a b"}},
		{"", 1, nil}, {"", 8, nil}, {" - ", 1, nil}, {"\xff", 3, nil}, {"-A-", 1, []string{"a"}}, {"--A--", 3, []string{"a"}}, {"--A--", 5, []string{"a"}},
		{"AAAA", 2, []string{"aa"}}, {"Abab", 2, []string{"ab", "ba"}}, {"a--b", 3, []string{"a b"}}, {"a--b", 4, []string{"a b"}}, {"c b a", 3, []string{" b ", "b a", "c b"}},
	} {
		if got := words.Grams(test.text, test.n); !slices.Equal(got, test.want) {
			t.Errorf("Grams(%q, %d): %q", test.text, test.n, got)
		}
	}
}

// P3.1, C3: the common elements of the chapter's example and of edges.
func TestCommonExamples(t *testing.T) {
	for _, test := range []struct {
		a, b []string
		want int
	}{
		{[]string{"a", "b", "d"}, []string{"b", "c", "d"}, 2},
		{nil, nil, 0}, {nil, []string{}, 0}, {nil, []string{"a"}, 0}, {[]string{"a"}, []string{}, 0}, {[]string{""}, []string{""}, 1}, {nil, []string{""}, 0},
		{[]string{"a"}, []string{"a"}, 1}, {[]string{"a"}, []string{"b"}, 0}, {[]string{"a"}, []string{"A"}, 0}, {[]string{"a"}, []string{"aa"}, 0},
		{[]string{"a", "b", "c"}, []string{"c"}, 1}, {[]string{"c"}, []string{"a", "b", "c"}, 1}, {[]string{"a"}, []string{"a", "b", "c"}, 1},
		{[]string{"a", "c", "e"}, []string{"b", "d", "f"}, 0}, {[]string{"10", "9"}, []string{"10", "11", "9"}, 2},
		{[]string{"-- A", "not a word"}, []string{"-- A", "\xff"}, 1},
		{[]string{"a", "a"}, []string{"a"}, 0}, {[]string{"a"}, []string{"a", "a"}, 0}, {[]string{"b", "a"}, []string{"a"}, 0}, {[]string{"a"}, []string{"b", "a"}, 0},
		{[]string{"a", "b", "b"}, []string{"a"}, 0}, {[]string{"a", "c", "b"}, []string{"a"}, 0}, {[]string{"b", "a"}, []string{"b", "a"}, 0}, {[]string{"9", "10"}, []string{"9"}, 0},
	} {
		if got := words.Common(test.a, test.b); got != test.want {
			t.Errorf("Common(%q, %q): %d", test.a, test.b, got)
		}
	}
}

// sample returns the edges, and all short texts of an alphabet in which each kind of byte occurs.
func sample() []string {
	return append(edgeTexts(), shortTexts("aAb1 -\xff", 4)...)
}

// P3.1: all functions agree with the models.
func TestAgreement(t *testing.T) {
	for _, text := range sample() {
		if got, want := words.Fold(text), foldModel(text); got != want {
			t.Errorf("Fold(%q): %q", text, got)
		}
		if got, want := words.Tokens(text), listModel(wordsModel(text)); !slices.Equal(got, want) {
			t.Errorf("Tokens(%q): %q", text, got)
		}
		for _, n := range edgeNumbers() {
			if got, want := words.Grams(text, n), gramsModel(text, n); !slices.Equal(got, want) {
				t.Errorf("Grams(%q, %d): %q", text, n, got)
			}
		}
	}
}

// P3.2: a folded text has only lower case letters, digits and single blanks between them, and is its own folded text.
func TestFolded(t *testing.T) {
	shape := regexp.MustCompile(`\A([a-z0-9]+( [a-z0-9]+)*)?\z`)
	for _, text := range sample() {
		folded := words.Fold(text)
		if !shape.MatchString(folded) {
			t.Errorf("Fold(%q): %q", text, folded)
		}
		if again := words.Fold(folded); again != folded {
			t.Errorf("Fold(%q): %q", folded, again)
		}
	}
}

// joined returns the folded text whose words are those of two folded texts, one after the other.
func joined(a, b string) string {
	if a == "" || b == "" {
		return a + b
	}
	return a + " " + b
}

// P3.3: every byte that is neither a letter nor a digit joins the words of what is before it and behind it.
func TestJoining(t *testing.T) {
	parts := []string{"", "a", "B", "7", " ", "-\xff", "ann Marie", " x", "y ", "Z-0 ", "a a", "\xc3", "\xa9b", "ONeil2"}
	for _, a := range parts {
		for _, b := range parts {
			want := joined(words.Fold(a), words.Fold(b))
			tokens := listModel(append(words.Tokens(a), words.Tokens(b)...))
			for _, c := range separators() {
				text := a + string([]byte{c}) + b
				if got := words.Fold(text); got != want {
					t.Errorf("Fold(%q): %q", text, got)
				}
				if got := words.Tokens(text); !slices.Equal(got, tokens) {
					t.Errorf("Tokens(%q): %q", text, got)
				}
			}
		}
	}
}

// P3.3: a letter or a digit does not separate words, and there are 62 of them.
func TestJoiningOfOne(t *testing.T) {
	count := 0
	for c := range 256 {
		if slices.Contains(separators(), byte(c)) {
			continue
		}
		count++
		text := "a" + string([]byte{byte(c)}) + "b"
		if got := words.Fold(text); len(got) != 3 || strings.Contains(got, " ") {
			t.Errorf("Fold(%q): %q", text, got)
		}
	}
	if count != 62 {
		t.Errorf("%d letters and digits", count)
	}
}

// P3.4: the tokens are sorted, and are the words of the text.
func TestTokensAreWords(t *testing.T) {
	for _, text := range sample() {
		tokens, all := words.Tokens(text), strings.Fields(words.Fold(text))
		if !ascending(tokens) {
			t.Errorf("Tokens(%q): %q", text, tokens)
		}
		for _, token := range tokens {
			if !slices.Contains(all, token) {
				t.Errorf("Tokens(%q): %q is no word", text, token)
			}
		}
		for _, word := range all {
			if !slices.Contains(tokens, word) {
				t.Errorf("Tokens(%q): %q is missing", text, word)
			}
		}
	}
}

// orders returns a list in all orders.
func orders(list []string) [][]string {
	if len(list) == 0 {
		return [][]string{nil}
	}
	var out [][]string
	for i := range list {
		rest := slices.Concat(list[:i], list[i+1:])
		for _, order := range orders(rest) {
			out = append(out, append(order, list[i]))
		}
	}
	return out
}

// P3.4: the order of words, and how often they occur, make no difference to the tokens.
func TestTokensOfOrders(t *testing.T) {
	list := []string{"ann", "2", "b", "bb", "an"}
	want := []string{"2", "an", "ann", "b", "bb"}
	for _, order := range orders(list) {
		once := strings.Join(order, " ")
		for _, text := range []string{once, once + " " + once, once + " " + order[0], order[4] + " " + once, order[2] + " " + order[2] + " " + once + " " + strings.ToUpper(once)} {
			if got := words.Tokens(text); !slices.Equal(got, want) {
				t.Errorf("Tokens(%q): %q", text, got)
			}
		}
	}
}

// P3.5: the grams are sorted, have n bytes and occur in the folded text, and each part of it with n bytes is one of them.
func TestGramsAreParts(t *testing.T) {
	for _, text := range sample() {
		folded := words.Fold(text)
		for n := 1; n <= 8; n++ {
			grams := words.Grams(text, n)
			if !ascending(grams) {
				t.Errorf("Grams(%q, %d): %q", text, n, grams)
			}
			for _, gram := range grams {
				if len(gram) != min(n, len(folded)) || !strings.Contains(folded, gram) {
					t.Errorf("Grams(%q, %d): %q", text, n, gram)
				}
			}
			for end := n; end <= len(folded); end++ {
				if !slices.Contains(grams, folded[end-n:end]) {
					t.Errorf("Grams(%q, %d): %q is missing", text, n, folded[end-n:end])
				}
			}
			if (len(grams) == 0) != (folded == "") {
				t.Errorf("Grams(%q, %d): %q", text, n, grams)
			}
		}
	}
}

// P3.6: for all sorted lists of some elements the number of common ones is symmetric and within the lengths, and adds up with the number of elements of both together.
func TestCommonOfSorted(t *testing.T) {
	lists := sortedLists()
	for i, a := range lists {
		if got := words.Common(a, slices.Clone(a)); got != len(a) {
			t.Fatalf("Common(%q, itself): %d", a, got)
		}
		for k := range 50 {
			b := lists[(i*31+k*41)%len(lists)]
			got := words.Common(a, b)
			if got != commonModel(a, b) || got != words.Common(b, a) || got < 0 || got > min(len(a), len(b)) {
				t.Fatalf("Common(%q, %q): %d", a, b, got)
			}
			if together := listModel(slices.Concat(a, b)); got+len(together) != len(a)+len(b) {
				t.Fatalf("Common(%q, %q): %d of %d", a, b, got, len(together))
			}
		}
	}
}

// P3.6: the tokens and the grams of a text are lists that have their lengths in common with themselves.
func TestCommonOfResults(t *testing.T) {
	for _, text := range sample() {
		tokens, grams := words.Tokens(text), words.Grams(text, 2)
		if words.Common(tokens, tokens) != len(tokens) || words.Common(grams, grams) != len(grams) {
			t.Errorf("%q: %q %q", text, tokens, grams)
		}
	}
}

// C3: a list that is not sorted has nothing in common with any list, not even with itself; where it breaks the order makes no difference.
func TestCommonOfUnsorted(t *testing.T) {
	for _, a := range unsortedLists() {
		for _, b := range append(append(sortedLists(), unsortedLists()...), a) {
			if words.Common(a, b) != 0 || words.Common(b, a) != 0 {
				t.Fatalf("Common(%q, %q)", a, b)
			}
		}
	}
	ordered := strings.Fields("a b c d e f g h")
	for i := range len(ordered) - 1 {
		twice, swapped := slices.Clone(ordered), slices.Clone(ordered)
		twice[i+1] = twice[i]
		swapped[i], swapped[i+1] = swapped[i+1], swapped[i]
		for _, list := range [][]string{twice, swapped} {
			if words.Common(list, ordered) != 0 || words.Common(ordered, list) != 0 || words.Common(list, nil) != 0 {
				t.Errorf("Common(%q, %q)", list, ordered)
			}
		}
	}
}

// exchanged returns a text with letters of the other case, and with each separator replaced by another one.
func exchanged(text string, separator byte) string {
	out := []byte(text)
	for i, c := range out {
		switch {
		case c >= 'a' && c <= 'z':
			out[i] = c - 'a' + 'A'
		case c >= 'A' && c <= 'Z':
			out[i] = c - 'A' + 'a'
		case c < '0' || c > '9':
			out[i] = separator
		}
	}
	return string(out)
}

// P3.7: upper and lower case, and which bytes separate words, make no difference to any function.
func TestLetters(t *testing.T) {
	for _, text := range append(edgeTexts(), shortTexts("aB1 \xe9", 4)...) {
		for _, separator := range separators() {
			other := exchanged(text, separator)
			if words.Fold(text) != words.Fold(other) {
				t.Fatalf("Fold of %q and %q", text, other)
			}
			if len(text) > 20 {
				continue
			}
			if !slices.Equal(words.Tokens(text), words.Tokens(other)) {
				t.Fatalf("Tokens of %q and %q", text, other)
			}
			if n := 1 + int(separator)%8; !slices.Equal(words.Grams(text, n), words.Grams(other, n)) {
				t.Fatalf("Grams of %q and %q, %d", text, other, n)
			}
		}
	}
}

// P1: the functions end for texts and lists of a million bytes and elements, too.
func TestLarge(t *testing.T) {
	var text strings.Builder
	for i := range 200000 {
		text.WriteString("W" + strconv.Itoa(i) + "-")
	}
	tokens := words.Tokens(text.String())
	if len(tokens) != 200000 || !ascending(tokens) || words.Common(tokens, tokens) != len(tokens) || words.Common(tokens, tokens[1:]) != len(tokens)-1 {
		t.Error("tokens of a large text")
	}
	if folded := words.Fold(text.String()); len(folded) != text.Len()-1 {
		t.Error("a large folded text")
	}
	if grams := words.Grams(text.String(), 8); !ascending(grams) || len(grams) == 0 {
		t.Error("grams of a large text")
	}
	for _, unit := range []string{"x", "-", "\xff"} {
		large := strings.Repeat(unit, 1000000)
		if words.Fold(large) != foldModel(large) || !slices.Equal(words.Grams(large, 8), gramsModel(large, 8)) || len(words.Tokens(large)) > 1 {
			t.Errorf("a large text of %q", unit)
		}
	}
}

// results returns what all functions return for many arguments.
func results() []string {
	var out []string
	texts := edgeTexts()
	for i, text := range texts {
		tokens, grams := words.Tokens(text), words.Grams(text, i%10)
		out = append(out, words.Fold(text))
		out = append(out, tokens...)
		out = append(out, grams...)
		out = append(out, strconv.Itoa(words.Common(tokens, words.Tokens(texts[i*7%len(texts)]))))
	}
	return out
}

// P3: calls with equal arguments have equal results, whatever was called in between, or done to earlier results.
func TestIndependence(t *testing.T) {
	first := results()
	for _, text := range edgeTexts() {
		for _, list := range [][]string{words.Tokens(text), words.Grams(text, 2)} {
			for i := range list {
				list[i] = "changed"
			}
			list = append(list, "more")
			slices.Reverse(list)
		}
	}
	if !slices.Equal(first, results()) {
		t.Error("results differ")
	}
}

// Rules: Common leaves the lists as they are, sorted or not, and equal lists with other capacities have the same result.
func TestListsAreKept(t *testing.T) {
	lists := append(unsortedLists(), sortedLists()[:100]...)
	for i, a := range lists {
		b := lists[len(lists)-1-i]
		aBefore, bBefore := slices.Clone(a), slices.Clone(b)
		got := words.Common(a, b)
		if !slices.Equal(a, aBefore) || !slices.Equal(b, bBefore) {
			t.Fatalf("changed: %q %q", aBefore, bBefore)
		}
		if again := words.Common(append(make([]string, 0, 50), a...), slices.Clip(b)); again != got {
			t.Errorf("Common(%q, %q): %d and %d", a, b, got, again)
		}
	}
}
