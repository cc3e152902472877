package value_test

import (
	"bytes"
	"math"
	"math/big"
	"regexp"
	"slices"
	"strconv"
	"strings"
	"testing"

	"cleanse/api"
	"cleanse/value"
)

func text(s string) api.Value { return api.Value{Kind: api.KindText, Text: s} }

func number(n int) api.Value { return api.Value{Kind: api.KindNumber, N: n} }

func day(n int) api.Value { return api.Value{Kind: api.KindDay, N: n} }

func flag(n int) api.Value { return api.Value{Kind: api.KindFlag, N: n} }

// edgeTexts returns contents of valid texts: short ones, ones with what is escaped, ones that look like other kinds, and ones at the limit.
func edgeTexts() []string {
	out := []string{"", "a", "A", "aa", "b", " ", "\x00", "\xff", "\xff\xfe", "é", "\"", "\\", "\n", "\\n", "\\\\n", "\\\"", "\"\"", "\"a\"", "a\"b", "a\\", "n", "\t\r", "a\nb\n", "null", "true", "false", "0", "12", "-12", "007", "-0", "+1", "1000000000", "1000000001", "@12", "@0", "@-1", "@73048", "@73049", "\"12\"", "@", "-"}
	for _, unit := range []string{"x", "\"", "\\", "\n", "\xff", "0", "9"} {
		out = append(out, strings.Repeat(unit, 200), strings.Repeat(unit, 199))
	}
	return append(out, strings.Repeat("é", 100))
}

// validSample returns valid values of all kinds, each once.
func validSample() []api.Value {
	out := []api.Value{{}, flag(0), flag(1)}
	for _, s := range edgeTexts() {
		out = append(out, text(s))
	}
	for _, n := range []int{0, 1, 2, 9, 10, 12, 99, 100, 73047, 73048} {
		out = append(out, number(n), day(n))
	}
	for _, n := range []int{-1, -2, -10, -12, 73049, 999999999, 1000000000, -999999999, -1000000000} {
		out = append(out, number(n))
	}
	return out
}

// invalidSample returns values that are not valid, for each reason.
func invalidSample() []api.Value {
	long := strings.Repeat("x", 201)
	out := []api.Value{text(long), text(strings.Repeat("é", 100) + "x"), text(strings.Repeat(long, 100)), number(1000000001), number(-1000000001), number(math.MinInt), number(math.MaxInt), day(-1), day(73049), day(math.MinInt), day(math.MaxInt), flag(2), flag(-1), flag(math.MinInt), flag(math.MaxInt)}
	for kind := api.KindNull; kind <= api.KindFlag; kind++ {
		if kind != api.KindText {
			out = append(out, api.Value{Kind: kind, Text: "a"}, api.Value{Kind: kind, Text: "\x00"}, api.Value{Kind: kind, Text: long})
		}
	}
	out = append(out, api.Value{N: 1}, api.Value{N: -1}, api.Value{N: math.MinInt, Text: "a"}, api.Value{Kind: api.KindText, N: 1}, api.Value{Kind: api.KindText, N: -1, Text: "a"})
	for _, kind := range []int{-1, 5, 6, math.MinInt, math.MaxInt} {
		out = append(out, api.Value{Kind: kind}, api.Value{Kind: kind, N: 1}, api.Value{Kind: kind, Text: "a"})
	}
	return out
}

// everyValue returns valid values and ones that are not.
func everyValue() []api.Value { return slices.Concat(validSample(), invalidSample()) }

// edgeAdds returns adds around every limit that matters, and the extreme ones.
func edgeAdds() []int {
	out := []int{0, math.MinInt, math.MinInt + 1, math.MaxInt, math.MaxInt - 1}
	for _, n := range []int{1, 2, 11, 73048, 73049, 999999999, 1000000000, 1000000001, 1999999999, 2000000000, 2000000001, math.MaxInt - 1000000000, math.MaxInt - 2000000000, 1 << 62, 1 << 32} {
		out = append(out, n, -n)
	}
	return out
}

// edgeOps returns the comparisons, and numbers of none.
func edgeOps() []int {
	return []int{api.OpEqual, api.OpUnlike, api.OpLess, api.OpAtMost, 0, 5, 6, -1, math.MinInt, math.MaxInt}
}

// B1: the table of valid values, of all kinds with numbers and texts around the limits.
func TestValid(t *testing.T) {
	for _, v := range validSample() {
		if !value.Valid(v) {
			t.Errorf("%v is valid", v)
		}
	}
	for _, v := range invalidSample() {
		if value.Valid(v) {
			t.Errorf("%v is not valid", v)
		}
	}
	ranges := map[int][2]int{api.KindNull: {0, 0}, api.KindText: {0, 0}, api.KindNumber: {-1000000000, 1000000000}, api.KindDay: {0, 73048}, api.KindFlag: {0, 1}}
	longest := map[int]int{api.KindText: 200}
	numbers := []int{math.MinInt, math.MaxInt, 0, 1, -1, 2, -2, 73047, 73048, 73049, -73048, 999999999, 1000000000, 1000000001, -999999999, -1000000000, -1000000001, 1 << 32, -1 << 32, 1<<32 + 1}
	for kind := -3; kind <= 8; kind++ {
		for _, n := range numbers {
			for _, length := range []int{0, 1, 199, 200, 201, 400} {
				within, known := ranges[kind]
				want := known && n >= within[0] && n <= within[1] && length <= longest[kind]
				if got := value.Valid(api.Value{Kind: kind, N: n, Text: strings.Repeat("x", length)}); got != want {
					t.Errorf("kind %d, N %d, %d bytes: %v", kind, n, length, got)
				}
			}
		}
	}
}

// B1 and P2.2: a list in the order of values, which is specified for values that are not valid, too.
func TestOrderOfList(t *testing.T) {
	ordered := []api.Value{
		{Kind: math.MinInt, N: 7, Text: "z"}, {Kind: -1}, {Kind: -1, Text: "a"},
		{N: math.MinInt}, {N: -1, Text: "z"}, {}, {Text: "a"}, {N: 1}, {N: math.MaxInt},
		{Kind: api.KindText, N: -1, Text: "z"}, text(""), text("\x00"), text("\n"), text("A"), text("B"), text("a"), text("a\x00"), text("aa"), text("ab"), text("b"), text("z"), text("\x7f"), text("\x80"), text("é"), text("\xff"), text("\xff\x00"), {Kind: api.KindText, N: 1},
		number(math.MinInt), number(-1000000000), number(-10), number(-9), number(-1), number(0), {Kind: api.KindNumber, Text: "1"}, number(1), number(9), number(10), number(1000000000), number(math.MaxInt),
		day(-1), day(0), day(73048), flag(0), flag(1), flag(2), {Kind: 5}, {Kind: 9, N: -1}, {Kind: math.MaxInt, N: math.MinInt},
	}
	for i, a := range ordered {
		for k, b := range ordered {
			if got := value.Compare(a, b); got != sign(i-k) {
				t.Errorf("Compare(%v, %v): %d", a, b, got)
			}
		}
	}
}

func sign(n int) int {
	switch {
	case n < 0:
		return -1
	case n > 0:
		return 1
	}
	return 0
}

// compareModel is the order of values, worked out apart from the program.
func compareModel(a, b api.Value) int {
	for _, pair := range [][2]int{{a.Kind, b.Kind}, {a.N, b.N}} {
		if got := big.NewInt(int64(pair[0])).Cmp(big.NewInt(int64(pair[1]))); got != 0 {
			return got
		}
	}
	return bytes.Compare([]byte(a.Text), []byte(b.Text))
}

// P2.2: exchanging values reverses the order, and 0 means equality; Kind counts before N, and N before Text.
func TestOrderOfTwo(t *testing.T) {
	sample := everyValue()
	for _, a := range sample {
		for _, b := range sample {
			got := value.Compare(a, b)
			if got != compareModel(a, b) || got != -value.Compare(b, a) || (got == 0) != (a == b) {
				t.Fatalf("Compare(%v, %v): %d", a, b, got)
			}
		}
	}
}

// P2.2: the order of values is transitive.
func TestOrderOfThree(t *testing.T) {
	sample := everyValue()
	for _, a := range sample {
		for _, b := range sample {
			if value.Compare(a, b) > 0 {
				continue
			}
			for _, c := range sample {
				if value.Compare(b, c) <= 0 && value.Compare(a, c) > 0 {
					t.Fatalf("%v, %v, %v", a, b, c)
				}
			}
		}
	}
}

// rowsUpTo returns all rows of some values up to a length, in the order of rows if the values are in theirs.
func rowsUpTo(length int, values []api.Value) [][]api.Value {
	rows := [][]api.Value{nil}
	if length == 0 {
		return rows
	}
	for _, v := range values {
		for _, rest := range rowsUpTo(length-1, values) {
			rows = append(rows, slices.Concat([]api.Value{v}, rest))
		}
	}
	return rows
}

// B1 and P2.2: all short rows are in a total order, in which a beginning comes first.
func TestOrderOfRows(t *testing.T) {
	rows := rowsUpTo(3, []api.Value{{Kind: -1}, {}, text("a"), number(-1), number(0), flag(1), {Kind: 7}})
	for i, a := range rows {
		for k, b := range rows {
			if got := value.CompareRows(a, b); got != sign(i-k) {
				t.Fatalf("CompareRows(%v, %v): %d", a, b, got)
			}
		}
	}
	long := make([]api.Value, 1000)
	if value.CompareRows(long, long[:999]) != 1 || value.CompareRows(long[:999], long) != -1 || value.CompareRows(long, slices.Clone(long)) != 0 {
		t.Error("a beginning of a long row")
	}
	if value.CompareRows(nil, []api.Value{}) != 0 || value.CompareRows([]api.Value{}, nil) != 0 || value.CompareRows(nil, nil) != 0 {
		t.Error("a nil row and an empty one are equal")
	}
	if value.CompareRows([]api.Value{{}}, nil) != 1 || value.CompareRows([]api.Value{number(2)}, []api.Value{number(1), number(3)}) != 1 {
		t.Error("the first values that differ decide before the lengths do")
	}
}

// Rules: rows that are compared are not changed.
func TestRowsAreKept(t *testing.T) {
	a, b := []api.Value{number(2), text("b"), {Kind: 9}}, []api.Value{number(2), text("a"), number(0), flag(1)}
	c, d := slices.Clone(a), slices.Clone(b)
	value.CompareRows(a, b)
	if !slices.Equal(a, c) || !slices.Equal(b, d) {
		t.Error(a, b)
	}
}

// B2: texts of values of all kinds.
func TestTextExamples(t *testing.T) {
	for _, test := range []struct {
		v    api.Value
		want string
	}{
		{api.Value{}, "null"},
		{number(0), "0"}, {number(7), "7"}, {number(-7), "-7"}, {number(10), "10"}, {number(1000000000), "1000000000"}, {number(-1000000000), "-1000000000"},
		{day(0), "@0"}, {day(12), "@12"}, {day(73048), "@73048"},
		{flag(0), "false"}, {flag(1), "true"},
		{text(""), `""`}, {text("a"), `"a"`}, {text(`a"b`), `"a\"b"`}, {text(`a\b`), `"a\\b"`}, {text("a\nb"), `"a\nb"`}, {text(`a\nb`), `"a\\nb"`}, {text(`\"`), `"\\\""`}, {text("\n\n"), `"\n\n"`}, {text(`"`), `"\""`}, {text(`\`), `"\\"`},
		{text("\t\r\x00\x7f\xff"), "\"\t\r\x00\x7f\xff\""}, {text("é'`/$"), "\"é'`/$\""}, {text(" a "), `" a "`},
		{text("null"), `"null"`}, {text("true"), `"true"`}, {text("12"), `"12"`}, {text("@12"), `"@12"`}, {text(`"12"`), `"\"12\""`},
		{text(strings.Repeat("\n", 200)), `"` + strings.Repeat(`\n`, 200) + `"`},
	} {
		if got := value.Text(test.v); got != test.want {
			t.Errorf("Text(%v): %q", test.v, got)
		}
		if got, err := value.Parse(test.want); got != test.v || err != api.OK {
			t.Errorf("Parse(%q): %v %v", test.want, got, err)
		}
	}
	for _, v := range invalidSample() {
		if got := value.Text(v); got != "" {
			t.Errorf("Text(%v): %q", v, got)
		}
	}
}

// B2: texts that no value has.
func TestParseRefuses(t *testing.T) {
	for _, s := range []string{
		"", " ", "nul", "nulll", "Null", "NULL", "null ", " null", "null\n", "nil", "tru", "True", "TRUE", "truefalse", "t", "f", "yes", "none",
		"007", "-0", "+0", "+1", "00", "-00", "-01", "--1", "-", "+", "- 1", "1-", "1 ", " 1", "1\n", "\n1", "1_000", "0x1", "0b1", "0o7", "1e3", "1.0", "1.", "1/2", "1,0", "a1", "1a", "1\x00", "١", "１", "1000000001", "-1000000001", "9223372036854775807", "9223372036854775808", "-9223372036854775808", "-9223372036854775809", "18446744073709551616", "18446744073709551617", "99999999999999999999",
		"@", "@-1", "@+1", "@01", "@00", "@-0", "@ 1", "@1 ", " @1", "@@1", "@1@", "@73049", "@1000000000", "@9223372036854775808", "@18446744073709551617", "@x", "@true", "@null", `@"1"`, "-@1", "1@",
		`"`, `"a`, `a"`, `a`, `""a`, `a""`, `"a"b"`, `"""`, `""""`, `"a""b"`, `"\"`, `"\`, `"\\\"`, `"\x"`, `"\t"`, `"\r"`, `"\0"`, `"\u0041"`, `"\N"`, `"\'"`, `"\ "`, "\"\\\n\"", "\"\n\"", "\"a\nb\"", `"a" `, ` "a"`, "\"a\"\n", `'a'`, "`a`", `"a'`, `\"a\"`,
		`"` + strings.Repeat("x", 201) + `"`, `"` + strings.Repeat(`\n`, 201) + `"`, `"` + strings.Repeat(`\\`, 200) + `x"`, `"` + strings.Repeat("é", 101) + `"`,
		strings.Repeat("1", 100000), "@" + strings.Repeat("0", 100000), strings.Repeat("\"", 100000), strings.Repeat("\\", 100000), `"` + strings.Repeat("\\", 100001) + `"`, `"` + strings.Repeat("x", 100000) + `"`,
	} {
		if got, err := value.Parse(s); got != (api.Value{}) || err != api.ErrSyntax {
			t.Errorf("Parse(%.40q): %v %v", s, got, err)
		}
	}
}

// P2.3: Parse returns the value for its text, and different values have different texts.
func TestParseOfText(t *testing.T) {
	sample := validSample()
	for b := range 256 {
		c := string([]byte{byte(b)})
		sample = append(sample, text("?"+c), text(c+"?"), text("\\"+c+"\\n"))
	}
	owners := map[string]api.Value{}
	for _, v := range sample {
		s := value.Text(v)
		if got, err := value.Parse(s); got != v || err != api.OK || s == "" {
			t.Errorf("Parse(%q): %v %v, not %v", s, got, err, v)
		}
		if owner, exists := owners[s]; exists && owner != v {
			t.Errorf("%q is the text of %v and of %v", s, owner, v)
		}
		owners[s] = v
	}
}

// P2.3: all short texts of bytes that matter have different texts, from which Parse returns them.
func TestParseOfShortTexts(t *testing.T) {
	owners := map[string]string{}
	var check func(s string)
	check = func(s string) {
		written := value.Text(text(s))
		if got, err := value.Parse(written); got != text(s) || err != api.OK {
			t.Fatalf("Parse(%q): %v %v", written, got, err)
		}
		if _, exists := owners[written]; exists {
			t.Fatalf("%q is the text of %q and of %q", written, owners[written], s)
		}
		owners[written] = s
		for _, c := range []string{"\"", "\\", "\n", "n", "a", "\xc3"} {
			if len(s) < 5 {
				check(s + c)
			}
		}
	}
	check("")
}

// P2.3: of all short texts of an alphabet, exactly those of values are accepted, and each is the text of its result.
func TestTextOfParse(t *testing.T) {
	form := regexp.MustCompile(`^(null|true|false|(0|-?[1-9][0-9]*)|@(0|[1-9][0-9]*)|"([^"\\\n]|\\["\\n])*")$`)
	accepted := 0
	var check func(s string)
	check = func(s string) {
		v, err := value.Parse(s)
		if form.MatchString(s) {
			accepted++
			if err != api.OK || value.Text(v) != s || !value.Valid(v) {
				t.Fatalf("Parse(%q): %v %v", s, v, err)
			}
		} else if err != api.ErrSyntax || v != (api.Value{}) {
			t.Fatalf("Parse(%q): %v %v", s, v, err)
		}
		for _, c := range []string{"0", "1", "6", "-", "+", "@", "_", "\"", "\\", "\n", "n", "\xff"} {
			if len(s) < 5 {
				check(s + c)
			}
		}
	}
	check("")
	if accepted < 1000 {
		t.Error("few texts are accepted:", accepted)
	}
}

// P2.3: numbers and days around the limits are accepted exactly up to them.
func TestParseLimits(t *testing.T) {
	for n := -20; n <= 20; n++ {
		for _, at := range []int{-1000000000, 0, 1000000000} {
			want, wantErr := number(at+n), api.OK
			if at+n < -1000000000 || at+n > 1000000000 {
				want, wantErr = api.Value{}, api.ErrSyntax
			}
			if got, err := value.Parse(strconv.Itoa(at + n)); got != want || err != wantErr {
				t.Error(at+n, got, err)
			}
		}
		for _, at := range []int{0, 73048} {
			want, wantErr := day(at+n), api.OK
			if at+n < 0 || at+n > 73048 {
				want, wantErr = api.Value{}, api.ErrSyntax
			}
			if got, err := value.Parse("@" + strconv.Itoa(at+n)); got != want || err != wantErr {
				t.Error(at+n, got, err)
			}
		}
	}
}

type castTest struct {
	v    api.Value
	kind int
	want api.Value
	err  api.Errno
}

func checkCasts(t *testing.T, tests []castTest) {
	t.Helper()
	for _, test := range tests {
		if got, err := value.Cast(test.v, test.kind); got != test.want || err != test.err {
			t.Errorf("Cast(%v, %d): %v %v", test.v, test.kind, got, err)
		}
	}
}

// B3: casts between numbers, days and flags, and to texts.
func TestCastExamples(t *testing.T) {
	none := api.Value{}
	checkCasts(t, []castTest{
		{none, api.KindText, none, api.OK}, {none, api.KindNumber, none, api.OK}, {none, api.KindDay, none, api.OK}, {none, api.KindFlag, none, api.OK},
		{number(-3), api.KindText, text("-3"), api.OK}, {number(1000000000), api.KindText, text("1000000000"), api.OK}, {day(4), api.KindText, text("@4"), api.OK}, {flag(0), api.KindText, text("false"), api.OK}, {flag(1), api.KindText, text("true"), api.OK},
		{text("null"), api.KindText, text("null"), api.OK}, {text("a\"\\\n"), api.KindText, text("a\"\\\n"), api.OK}, {text("-0"), api.KindText, text("-0"), api.OK},
		{number(0), api.KindDay, day(0), api.OK}, {number(73048), api.KindDay, day(73048), api.OK}, {number(73049), api.KindDay, none, api.ErrFit}, {number(-1), api.KindDay, none, api.ErrFit}, {number(1000000000), api.KindDay, none, api.ErrFit}, {number(-1000000000), api.KindDay, none, api.ErrFit},
		{day(0), api.KindNumber, number(0), api.OK}, {day(73048), api.KindNumber, number(73048), api.OK},
		{flag(0), api.KindNumber, none, api.ErrType}, {flag(1), api.KindNumber, none, api.ErrType}, {flag(0), api.KindDay, none, api.ErrType}, {flag(1), api.KindDay, none, api.ErrType},
		{number(0), api.KindFlag, none, api.ErrType}, {number(1), api.KindFlag, none, api.ErrType}, {number(12), api.KindFlag, none, api.ErrType}, {day(0), api.KindFlag, none, api.ErrType}, {day(1), api.KindFlag, none, api.ErrType},
		{flag(1), api.KindFlag, flag(1), api.OK}, {number(-5), api.KindNumber, number(-5), api.OK}, {day(5), api.KindDay, day(5), api.OK},
	})
}

// B3: casts of texts, also of ones that look like other kinds.
func TestCastTexts(t *testing.T) {
	none := api.Value{}
	checkCasts(t, []castTest{
		{text("12"), api.KindNumber, number(12), api.OK}, {text("-1000000000"), api.KindNumber, number(-1000000000), api.OK}, {text("@12"), api.KindDay, day(12), api.OK}, {text("@73048"), api.KindDay, day(73048), api.OK}, {text("true"), api.KindFlag, flag(1), api.OK}, {text("false"), api.KindFlag, flag(0), api.OK},
		{text("@12"), api.KindNumber, none, api.ErrFit}, {text("12"), api.KindDay, none, api.ErrFit}, {text("12"), api.KindFlag, none, api.ErrFit}, {text("1"), api.KindFlag, none, api.ErrFit}, {text("0"), api.KindFlag, none, api.ErrFit}, {text("@1"), api.KindFlag, none, api.ErrFit}, {text("true"), api.KindNumber, none, api.ErrFit}, {text("true"), api.KindDay, none, api.ErrFit},
		{text("null"), api.KindNumber, none, api.ErrFit}, {text("null"), api.KindDay, none, api.ErrFit}, {text("null"), api.KindFlag, none, api.ErrFit}, {text(""), api.KindNumber, none, api.ErrFit}, {text(""), api.KindDay, none, api.ErrFit}, {text(""), api.KindFlag, none, api.ErrFit},
		{text(`"12"`), api.KindNumber, none, api.ErrFit}, {text(`""`), api.KindNumber, none, api.ErrFit}, {text(`"@12"`), api.KindDay, none, api.ErrFit}, {text(`"true"`), api.KindFlag, none, api.ErrFit},
		{text("007"), api.KindNumber, none, api.ErrFit}, {text("-0"), api.KindNumber, none, api.ErrFit}, {text("+1"), api.KindNumber, none, api.ErrFit}, {text(" 12"), api.KindNumber, none, api.ErrFit}, {text("12\n"), api.KindNumber, none, api.ErrFit}, {text("1000000001"), api.KindNumber, none, api.ErrFit}, {text("-1000000001"), api.KindNumber, none, api.ErrFit}, {text("@73049"), api.KindDay, none, api.ErrFit}, {text("@-1"), api.KindDay, none, api.ErrFit}, {text("@01"), api.KindDay, none, api.ErrFit}, {text("TRUE"), api.KindFlag, none, api.ErrFit}, {text(strings.Repeat("9", 200)), api.KindNumber, none, api.ErrFit},
	})
}

// B3: ErrArg comes before all other errors, and before what null and the same kind give.
func TestCastRefuses(t *testing.T) {
	for _, v := range everyValue() {
		for _, kind := range []int{api.KindNull, -1, 5, 6, math.MinInt, math.MaxInt} {
			if got, err := value.Cast(v, kind); got != (api.Value{}) || err != api.ErrArg {
				t.Errorf("Cast(%v, %d): %v %v", v, kind, got, err)
			}
		}
	}
	for _, v := range invalidSample() {
		for kind := api.KindText; kind <= api.KindFlag; kind++ {
			if got, err := value.Cast(v, kind); got != (api.Value{}) || err != api.ErrArg {
				t.Errorf("Cast(%v, %d): %v %v", v, kind, got, err)
			}
		}
	}
}

// castModel is a cast of a valid value to a kind of cells, worked out apart from the program.
func castModel(v api.Value, kind int) (api.Value, api.Errno) {
	type pair struct{ from, to int }
	if v == (api.Value{}) || v.Kind == kind {
		return v, api.OK
	}
	switch (pair{v.Kind, kind}) {
	case pair{api.KindNumber, api.KindText}:
		return text(strconv.Itoa(v.N)), api.OK
	case pair{api.KindDay, api.KindText}:
		return text("@" + strconv.Itoa(v.N)), api.OK
	case pair{api.KindFlag, api.KindText}:
		return text([]string{"false", "true"}[v.N]), api.OK
	case pair{api.KindText, api.KindNumber}, pair{api.KindText, api.KindDay}, pair{api.KindText, api.KindFlag}:
		for _, w := range validSample() {
			if w.Kind == kind && value.Text(w) == v.Text {
				return w, api.OK
			}
		}
		return api.Value{}, api.ErrFit
	case pair{api.KindNumber, api.KindDay}:
		if v.N < 0 || v.N > 73048 {
			return api.Value{}, api.ErrFit
		}
		return day(v.N), api.OK
	case pair{api.KindDay, api.KindNumber}:
		return number(v.N), api.OK
	}
	return api.Value{}, api.ErrType
}

// P2.4: what Cast returns is null or a valid value of the kind; B3 for all values of the sample and all kinds.
func TestCastIsOfKind(t *testing.T) {
	for _, v := range validSample() {
		for kind := api.KindText; kind <= api.KindFlag; kind++ {
			got, err := value.Cast(v, kind)
			if want, wantErr := castModel(v, kind); got != want || err != wantErr {
				t.Errorf("Cast(%v, %d): %v %v, not %v %v", v, kind, got, err, want, wantErr)
			}
			if err == api.OK && (!value.Valid(got) || got.Kind != kind && got != (api.Value{})) {
				t.Errorf("Cast(%v, %d): %v", v, kind, got)
			}
		}
	}
}

// P2.4: a number, a day or a flag is the same again after a cast to a text and back; a day after one to a number and back.
func TestCastAndBack(t *testing.T) {
	sample := validSample()
	for n := 0; n <= 73048; n += 7 {
		sample = append(sample, number(-n), number(n*13000), day(n))
	}
	for _, v := range sample {
		if v.Kind == api.KindText || v.Kind == api.KindNull {
			continue
		}
		written, err := value.Cast(v, api.KindText)
		if back, backErr := value.Cast(written, v.Kind); err != api.OK || backErr != api.OK || back != v {
			t.Fatal("text", v, written, back, err, backErr)
		}
		if v.Kind != api.KindDay {
			continue
		}
		counted, err := value.Cast(v, api.KindNumber)
		if back, backErr := value.Cast(counted, api.KindDay); err != api.OK || backErr != api.OK || back != v || counted != number(v.N) {
			t.Fatal("number", v, counted, back, err, backErr)
		}
	}
}

// B4: comparisons of all kinds, and those that never hold.
func TestTestExamples(t *testing.T) {
	for _, test := range []struct {
		a    api.Value
		op   int
		b    api.Value
		add  int
		want bool
	}{
		{number(3), api.OpLess, number(1), 3, true}, {number(4), api.OpLess, number(1), 3, false}, {number(4), api.OpAtMost, number(1), 3, true}, {number(5), api.OpAtMost, number(1), 3, false}, {number(4), api.OpEqual, number(1), 3, true}, {number(1), api.OpEqual, number(4), 3, false}, {number(4), api.OpUnlike, number(1), 3, false}, {number(4), api.OpUnlike, number(1), -3, true},
		{day(5), api.OpEqual, day(7), -2, true}, {day(0), api.OpLess, day(0), 1, true}, {day(0), api.OpAtMost, day(0), -1, false}, {day(73048), api.OpLess, day(73048), 1, true},
		{number(1000000000), api.OpEqual, number(-1000000000), 2000000000, true}, {number(-1000000000), api.OpEqual, number(1000000000), -2000000000, true}, {number(1000000000), api.OpLess, number(-1000000000), 2000000001, true},
		{number(1000000000), api.OpLess, number(1000000000), math.MaxInt, true}, {number(-1000000000), api.OpLess, number(-1000000000), math.MinInt, false}, {number(-1), api.OpAtMost, number(1), math.MinInt, false}, {number(0), api.OpEqual, number(1), math.MaxInt, false}, {number(0), api.OpUnlike, number(1), math.MaxInt, true}, {number(0), api.OpUnlike, number(-1), math.MinInt, true},
		{text("a"), api.OpEqual, text("a"), 0, true}, {text("a"), api.OpEqual, text("A"), 0, false}, {text("a"), api.OpUnlike, text("A"), 0, true}, {text("A"), api.OpLess, text("a"), 0, true}, {text(""), api.OpLess, text("\x00"), 0, true}, {text("a"), api.OpLess, text("aa"), 0, true}, {text("aa"), api.OpAtMost, text("b"), 0, true}, {text("10"), api.OpLess, text("9"), 0, true}, {text("z"), api.OpLess, text("\xff"), 0, true}, {text("b"), api.OpAtMost, text("a"), 0, false},
		{text("a"), api.OpLess, text("b"), 1, false}, {text("a"), api.OpUnlike, text("b"), 1, false}, {text("a"), api.OpEqual, text("a"), -1, false}, {text("a"), api.OpAtMost, text("b"), math.MinInt, false},
		{flag(0), api.OpLess, flag(1), 0, true}, {flag(1), api.OpEqual, flag(1), 0, true}, {flag(0), api.OpUnlike, flag(1), 0, true}, {flag(1), api.OpAtMost, flag(0), 0, false}, {flag(1), api.OpEqual, flag(0), 1, false}, {flag(0), api.OpUnlike, flag(1), -1, false}, {flag(0), api.OpLess, flag(0), 1, false}, {flag(0), api.OpAtMost, flag(0), math.MaxInt, false},
		{number(1), api.OpEqual, day(1), 0, false}, {number(1), api.OpUnlike, day(2), 0, false}, {number(1), api.OpLess, day(2), 0, false}, {day(1), api.OpAtMost, number(1), 0, false}, {text("1"), api.OpUnlike, number(1), 0, false}, {flag(1), api.OpEqual, number(1), 0, false},
		{number(1), 0, number(1), 0, false}, {number(1), 5, number(1), 0, false}, {number(1), -1, number(2), 0, false}, {number(1), math.MinInt, number(2), 0, false}, {number(1), math.MaxInt, number(1), 0, false},
	} {
		if got := value.Test(test.a, test.op, test.b, test.add); got != test.want {
			t.Errorf("Test(%v, %d, %v, %d): %v", test.a, test.op, test.b, test.add, got)
		}
	}
}

// testModel is a comparison of values, worked out apart from the program.
func testModel(a api.Value, op int, b api.Value, add int) bool {
	if !value.Valid(a) || !value.Valid(b) || a.Kind != b.Kind {
		return false
	}
	var order int
	switch a.Kind {
	case api.KindNull:
		return false
	case api.KindText:
		order = bytes.Compare([]byte(a.Text), []byte(b.Text))
	default:
		order = big.NewInt(int64(a.N)).Cmp(new(big.Int).Add(big.NewInt(int64(b.N)), big.NewInt(int64(add))))
	}
	if add != 0 && (a.Kind == api.KindText || a.Kind == api.KindFlag) {
		return false
	}
	return op == api.OpEqual && order == 0 || op == api.OpUnlike && order != 0 || op == api.OpLess && order < 0 || op == api.OpAtMost && order <= 0
}

// B4: all values of the sample, all comparisons and all adds, against exact sums.
func TestTestIsExact(t *testing.T) {
	sample := everyValue()
	for _, a := range sample {
		for _, b := range sample {
			for _, add := range edgeAdds() {
				for _, op := range edgeOps() {
					if got := value.Test(a, op, b, add); got != testModel(a, op, b, add) {
						t.Fatalf("Test(%v, %d, %v, %d): %v", a, op, b, add, got)
					}
				}
			}
		}
	}
}

// P2.5: without add, exactly one of less, equal and greater holds, as the order says; OpUnlike and OpAtMost follow from the others.
func TestComparisonsAgreeWithOrder(t *testing.T) {
	sample := validSample()
	for _, a := range sample {
		for _, b := range sample {
			if a.Kind != b.Kind || a.Kind == api.KindNull {
				continue
			}
			less, equal, greater := value.Test(a, api.OpLess, b, 0), value.Test(a, api.OpEqual, b, 0), value.Test(b, api.OpLess, a, 0)
			order := value.Compare(a, b)
			if less != (order < 0) || equal != (order == 0) || greater != (order > 0) {
				t.Fatal(a, b, less, equal, greater, order)
			}
			if value.Test(a, api.OpUnlike, b, 0) == equal || value.Test(a, api.OpAtMost, b, 0) != (less || equal) {
				t.Fatal(a, b)
			}
		}
	}
}

// P2.6: only the difference of two numbers and add matter: moving both numbers, or moving one of them and add, changes nothing.
func TestShifts(t *testing.T) {
	numbers := []int{0, 1, -1, 2, -3, 10, 500000000, -500000000, 999999990, -999999990}
	compared := 0
	for _, a := range numbers {
		for _, b := range numbers {
			for _, shift := range []int{1, -1, 10, -10, 499999999, -499999999, 1999999980, -1999999980} {
				for _, add := range append(edgeAdds(), a-b, a-b+1, a-b-1) {
					for op := api.OpEqual; op <= api.OpAtMost; op++ {
						want := value.Test(number(a), op, number(b), add)
						if value.Valid(number(a+shift)) && value.Valid(number(b+shift)) && value.Test(number(a+shift), op, number(b+shift), add) != want {
							t.Fatal("both numbers", a, op, b, add, shift)
						}
						movesBack := add < math.MaxInt-2000000000 && add > math.MinInt+2000000000
						if value.Valid(number(b+shift)) && movesBack && value.Test(number(a), op, number(b+shift), add-shift) != want {
							t.Fatal("a number and add", a, op, b, add, shift)
						}
						if want {
							compared++
						}
					}
				}
			}
		}
	}
	if compared < 10000 {
		t.Error("few comparisons hold:", compared)
	}
}

// P2.7: null agrees with nothing, not even with null, and nothing is true of values that are not valid.
func TestNothing(t *testing.T) {
	for _, nothing := range append(invalidSample(), api.Value{}) {
		for _, v := range append(everyValue(), nothing) {
			for _, add := range []int{0, 1, -1, math.MinInt, math.MaxInt} {
				for _, op := range edgeOps() {
					if value.Test(nothing, op, v, add) || value.Test(v, op, nothing, add) {
						t.Fatalf("%v and %v, op %d, add %d", nothing, v, op, add)
					}
				}
			}
		}
	}
}

// P1: for all arguments the functions return either a valid value, or an error of theirs and the zero value.
func TestErrorsComeAlone(t *testing.T) {
	kinds := []int{-1, 0, 1, 2, 3, 4, 5, math.MinInt, math.MaxInt}
	for _, v := range everyValue() {
		if value.Valid(v) != (value.Text(v) != "") {
			t.Errorf("Text(%v)", v)
		}
		for _, s := range []string{v.Text, value.Text(v), "@" + v.Text, `"` + v.Text, `"` + v.Text + `"`, strconv.Itoa(v.N), "@" + strconv.Itoa(v.N)} {
			got, err := value.Parse(s)
			if err == api.OK && !value.Valid(got) || err != api.OK && (got != api.Value{} || err != api.ErrSyntax) {
				t.Errorf("Parse(%.40q): %v %v", s, got, err)
			}
		}
		for _, kind := range kinds {
			got, err := value.Cast(v, kind)
			known := err == api.ErrArg || err == api.ErrType || err == api.ErrFit
			if err == api.OK && !value.Valid(got) || err != api.OK && (got != api.Value{} || !known) {
				t.Errorf("Cast(%v, %d): %v %v", v, kind, got, err)
			}
		}
	}
}

// P3: calls with equal arguments have equal results, whatever was called in between.
func TestIndependence(t *testing.T) {
	results := func() []string {
		var out []string
		sample := everyValue()
		for i, a := range sample {
			b := sample[i*7%len(sample)]
			parsed, parsedErr := value.Parse(a.Text)
			cast, castErr := value.Cast(a, i%5)
			order, rows := value.Compare(a, b), value.CompareRows(sample[i:], sample[len(sample)-i:])
			holds := value.Test(a, i%6, b, i%3-1)
			out = append(out, value.Text(a), value.Text(parsed), value.Text(cast), strconv.Itoa(int(parsedErr)), strconv.Itoa(int(castErr)), strconv.Itoa(order), strconv.Itoa(rows), strconv.FormatBool(holds), strconv.FormatBool(value.Valid(a)))
		}
		return out
	}
	if first := results(); !slices.Equal(first, results()) {
		t.Error("results differ")
	}
}
