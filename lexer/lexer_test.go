package lexer_test

import (
	"fmt"
	"math/rand/v2"
	"reflect"
	"regexp"
	"slices"
	"strconv"
	"strings"
	"testing"

	"cleanse/api"
	"cleanse/lexer"
	"cleanse/value"
)

// singles are the symbols of one byte.
const singles = ";:,.(){}=<+-/@"

func name(s string, at int) api.Token { return api.Token{Kind: api.TokName, Text: s, At: at} }

func text(s string, at int) api.Token { return api.Token{Kind: api.TokText, Text: s, At: at} }

func symbol(s string, at int) api.Token { return api.Token{Kind: api.TokSymbol, Text: s, At: at} }

func number(s string, at int) api.Token {
	n, _ := strconv.Atoi(s)
	return api.Token{Kind: api.TokNumber, Text: s, N: n, At: at}
}

// xs returns n letters.
func xs(n int) string { return strings.Repeat("x", n) }

// symbols returns all symbols.
func symbols() []string { return append(strings.Split(singles, ""), "!=", "<=") }

// show returns the beginning of a text as a literal.
func show(source string) string { return fmt.Sprintf("%.80q", source) }

// checkTokens checks that a text has these tokens.
func checkTokens(t *testing.T, source string, want ...api.Token) {
	t.Helper()
	if got, err, at := lexer.Lex(source); err != api.OK || at != 0 || !slices.Equal(got, want) {
		t.Fatalf("%s: %.600q, error %d at %d, not %.600q", show(source), fmt.Sprint(got), err, at, fmt.Sprint(want))
	}
}

// checkError checks that a text has this error at this offset, and no tokens.
func checkError(t *testing.T, source string, want api.Errno, offset int) {
	t.Helper()
	if got, err, at := lexer.Lex(source); err != want || at != offset || len(got) != 0 {
		t.Fatalf("%s: %d tokens, error %d at %d, not %d at %d", show(source), len(got), err, at, want, offset)
	}
}

// Forms of gaps and tokens. They read runes, and any byte that is not one as a rune beyond ASCII.
var (
	gapForm    = regexp.MustCompile(`\A(?:[ \t\n]|#[^\n]*(?:\n|\z))*`)
	nameForm   = regexp.MustCompile(`\A[A-Za-z][A-Za-z0-9_]*`)
	numberForm = regexp.MustCompile(`\A[0-9]+`)
	joinedForm = regexp.MustCompile(`\A[0-9]+[A-Za-z_]`)
	textForm   = regexp.MustCompile(`\A"(?:[^"\\\n]|\\"|\\\\|\\n)*"`)
	brokenForm = regexp.MustCompile(`\A"(?:[^"\\\n]|\\"|\\\\|\\n)*(?:\n|\\[^"\\n])`)
	symbolForm = regexp.MustCompile(`\A(?:!=|<=|[;:,.(){}=<+\-/@])`)
	unescape   = strings.NewReplacer(`\"`, `"`, `\\`, `\`, `\n`, "\n")
)

// tokenModel returns the token at the beginning of a text, and its bytes there, worked out apart from the program.
func tokenModel(rest string, at int) (api.Token, string, api.Errno) {
	if found := nameForm.FindString(rest); len(found) > 24 {
		return api.Token{}, "", api.ErrLimit
	} else if found != "" {
		return name(found, at), found, api.OK
	}
	if found := numberForm.FindString(rest); len(found) > 10 || joinedForm.MatchString(rest) {
		return api.Token{}, "", api.ErrNumber
	} else if found != "" {
		return number(found, at), found, api.OK
	}
	if found := textForm.FindString(rest); found != "" {
		content := unescape.Replace(found[1 : len(found)-1])
		if len(content) > 200 {
			return api.Token{}, "", api.ErrLimit
		}
		return text(content, at), found, api.OK
	}
	if found := symbolForm.FindString(rest); found != "" {
		return symbol(found, at), found, api.OK
	}
	if rest[0] == '"' && !brokenForm.MatchString(rest) {
		return api.Token{}, "", api.ErrEnd
	}
	return api.Token{}, "", api.ErrChar
}

// model is Lex, worked out apart from the program.
func model(source string) ([]api.Token, api.Errno, int) {
	if len(source) > 20000 {
		return nil, api.ErrLimit, -1
	}
	var out []api.Token
	for at := 0; ; {
		at += len(gapForm.FindString(source[at:]))
		if at == len(source) {
			return out, api.OK, 0
		}
		token, found, err := tokenModel(source[at:], at)
		if err == api.OK && len(out) == 5000 {
			err = api.ErrLimit
		}
		if err != api.OK {
			return nil, err, at
		}
		out = append(out, token)
		at += len(found)
	}
}

// checkModel checks that Lex returns what the model does, and returns the error.
func checkModel(t *testing.T, source string) api.Errno {
	t.Helper()
	tokens, err, at := model(source)
	if err == api.OK {
		checkTokens(t, source, tokens...)
	} else {
		checkError(t, source, err, at)
	}
	return err
}

// random returns a source of numbers that are always the same ones in the same order.
func random() *rand.Rand { return rand.New(rand.NewPCG(7, 22)) }

// sample is a text, and the tokens of which it was written.
type sample struct {
	text   string
	tokens []api.Token
}

// add writes a token. A blank goes before it where it would become part of the token before it.
func (s *sample) add(token api.Token, source string) {
	if n := len(s.tokens); n > 0 {
		last := s.tokens[n-1]
		isWord := last.Kind == api.TokName || last.Kind == api.TokNumber
		joins := isWord && (token.Kind == api.TokName || token.Kind == api.TokNumber)
		if end := last.At + len(spell(last)); end == len(s.text) && (joins || last.Text == "<" && token.Text == "=") {
			s.text += " "
		}
	}
	token.At = len(s.text)
	s.tokens = append(s.tokens, token)
	s.text += source
}

// spell returns a token as it is written. A content can be written in one way alone.
func spell(token api.Token) string {
	if token.Kind == api.TokText {
		return value.Text(api.Value{Kind: api.KindText, Text: token.Text})
	}
	return token.Text
}

// pick returns n bytes out of a list.
func pick(r *rand.Rand, from string, n int) string {
	out := make([]byte, n)
	for i := range out {
		out[i] = from[r.IntN(len(from))]
	}
	return string(out)
}

// somewhat returns a number up to a bound, which is mostly a small one.
func somewhat(r *rand.Rand, bound int) int {
	if r.IntN(20) == 0 {
		return bound
	}
	return r.IntN(min(bound, 6) + 1)
}

// someGap returns a gap, which may be empty.
func someGap(r *rand.Rand) string {
	out := ""
	for range r.IntN(3) {
		switch r.IntN(4) {
		case 0:
			out += "#" + pick(r, "a7_ \t\r\x00\xff!\"\\#;", somewhat(r, 30)) + "\n"
		default:
			out += pick(r, " \t\n", 1)
		}
	}
	return out
}

const (
	letters = "abzABZ"
	digits  = "0123456789"
)

// addSome writes a token of any kind.
func (s *sample) addSome(r *rand.Rand) {
	switch r.IntN(4) {
	case 0:
		word := pick(r, letters, 1) + pick(r, letters+digits+"_", somewhat(r, 23))
		s.add(name(word, 0), word)
	case 1:
		word := pick(r, digits, 1+somewhat(r, 9))
		s.add(number(word, 0), word)
	case 2:
		content := pick(r, "ab7 #\t\r\x00\x80\xff\"\\\nn", somewhat(r, 200))
		s.add(text(content, 0), spell(text(content, 0)))
	default:
		word := symbols()[r.IntN(16)]
		s.add(symbol(word, 0), word)
	}
}

// someText returns a text without an error, of a number of tokens, with gaps anywhere.
func someText(r *rand.Rand, tokens int) sample {
	s := sample{text: someGap(r)}
	for range tokens {
		s.addSome(r)
		s.text += someGap(r)
	}
	if r.IntN(5) == 0 {
		s.text += "# " + pick(r, "a\"!", r.IntN(3))
	}
	return s
}

// shifted returns tokens with offsets that are greater by a number.
func shifted(tokens []api.Token, by int) []api.Token {
	out := slices.Clone(tokens)
	for i := range out {
		out[i].At += by
	}
	return out
}

// wrong is a text that should be a token but is none, and its error.
type wrong struct {
	text string
	err  api.Errno
}

// wrongs returns texts that should be tokens but are none, whatever comes after a gap behind them.
func wrongs() []wrong {
	return []wrong{
		{"!", api.ErrChar}, {"?", api.ErrChar}, {"\r", api.ErrChar}, {"é", api.ErrChar}, {"_a", api.ErrChar}, {"\x00", api.ErrChar},
		{`"\t"`, api.ErrChar}, {"\"a\nb", api.ErrChar}, {`"\` + "\n", api.ErrChar}, {`"` + xs(201) + "\n", api.ErrChar},
		{"7x", api.ErrNumber}, {"7_", api.ErrNumber}, {"12345678901", api.ErrNumber}, {"00000000000", api.ErrNumber}, {"12345678901z", api.ErrNumber},
		{xs(25), api.ErrLimit}, {"a_" + xs(30), api.ErrLimit}, {`"` + xs(201) + `"`, api.ErrLimit}, {`"` + strings.Repeat(`\n`, 201) + `"`, api.ErrLimit},
	}
}

// P7.1: the examples of the chapter.
func TestExamples(t *testing.T) {
	checkTokens(t, "key a_1;", name("key", 0), name("a_1", 4), symbol(";", 7))
	checkTokens(t, "x<=12 # 3", name("x", 0), symbol("<=", 1), api.Token{Kind: api.TokNumber, Text: "12", N: 12, At: 3})
	checkTokens(t, `"a\"b"`, text(`a"b`, 0))
	checkError(t, "7x", api.ErrNumber, 0)
	checkError(t, `a "b`, api.ErrEnd, 2)
	checkError(t, "a !b", api.ErrChar, 2)
	checkError(t, `"\t"`, api.ErrChar, 0)
}

// P7.1: a program text with tokens of all kinds.
func TestProgram(t *testing.T) {
	source := "# people\ntable p(n text = \"x\") key n;\nquery q=select(p where n!=-7/2);\n"
	at := strings.Index(source, "query")
	checkTokens(t, source,
		name("table", 9), name("p", 15), symbol("(", 16), name("n", 17), name("text", 19), symbol("=", 24), text("x", 26), symbol(")", 29), name("key", 31), name("n", 35), symbol(";", 36),
		name("query", at), name("q", at+6), symbol("=", at+7), name("select", at+8), symbol("(", at+14), name("p", at+15), name("where", at+17), name("n", at+23), symbol("!=", at+24), symbol("-", at+26), number("7", at+27), symbol("/", at+28), number("2", at+29), symbol(")", at+30), symbol(";", at+31))
}

// P7.1: every text of one byte.
func TestOneByte(t *testing.T) {
	checkTokens(t, "")
	for c := range 256 {
		source := string([]byte{byte(c)})
		switch {
		case strings.Contains(" \t\n#", source):
			checkTokens(t, source)
		case c >= 'a' && c <= 'z' || c >= 'A' && c <= 'Z':
			checkTokens(t, source, name(source, 0))
		case c >= '0' && c <= '9':
			checkTokens(t, source, api.Token{Kind: api.TokNumber, Text: source, N: c - '0'})
		case strings.Contains(singles, source):
			checkTokens(t, source, symbol(source, 0))
		case source == `"`:
			checkError(t, source, api.ErrEnd, 0)
		default:
			checkError(t, source, api.ErrChar, 0)
		}
	}
}

// P7.1: a text of 20000 bytes is read; of one with 20001 bytes nothing is, whatever is in it.
func TestSizes(t *testing.T) {
	checkTokens(t, strings.Repeat(" ", 20000))
	checkTokens(t, "#"+xs(19999))
	checkTokens(t, strings.Repeat("\n", 19999)+"a", name("a", 19999))
	checkTokens(t, "a"+strings.Repeat(" ", 19999), name("a", 0))
	checkError(t, strings.Repeat(" ", 19999)+"!", api.ErrChar, 19999)
	checkError(t, strings.Repeat(" ", 19999)+`"`, api.ErrEnd, 19999)
	checkError(t, xs(20000), api.ErrLimit, 0)
	checkError(t, strings.Repeat("1", 20000), api.ErrNumber, 0)
	checkError(t, `"`+xs(19999), api.ErrEnd, 0)
	checkError(t, `"`+xs(19998)+`"`, api.ErrLimit, 0)
	checkError(t, `"`+xs(19998)+"\n", api.ErrChar, 0)
	for _, part := range []string{" ", "\n", "#", "x", "x ", "7", "7x", `"`, `" `, `\`, ";", "; ", "!", "\x00", "é"} {
		checkError(t, strings.Repeat(part, 20001)[:20001], api.ErrLimit, -1)
		checkError(t, strings.Repeat(part, 3000000), api.ErrLimit, -1)
	}
}

// P7.1: names of 1, 24 and 25 bytes, with each byte that a name may have inside of it and at its end.
func TestNames(t *testing.T) {
	const rest = "abcdefghijklmnopqrstuvwxyzABCDEFGHIJKLMNOPQRSTUVWXYZ0123456789_"
	for i, c := range rest {
		inside := "a" + string(c) + "a"
		checkTokens(t, inside, name(inside, 0))
		checkTokens(t, inside[:2]+";", name(inside[:2], 0), symbol(";", 2))
		if i < 52 {
			checkTokens(t, string(c)+"_9", name(string(c)+"_9", 0))
		}
		for _, n := range []int{1, 2, 23, 24} {
			long := "Z" + strings.Repeat(string(c), n-1)
			checkTokens(t, long, name(long, 0))
			checkTokens(t, " "+long+" ", name(long, 1))
		}
		for _, n := range []int{25, 26, 200, 5000} {
			long := "Z" + strings.Repeat(string(c), n-1)
			checkError(t, long, api.ErrLimit, 0)
			checkError(t, " a "+long+";", api.ErrLimit, 3)
		}
	}
	checkTokens(t, "a__1_B2_", name("a__1_B2_", 0))
	checkTokens(t, xs(24)+" "+xs(24), name(xs(24), 0), name(xs(24), 25))
	checkTokens(t, "Key kEY", name("Key", 0), name("kEY", 4))
}

// P7.1: a name ends before each byte that it cannot have.
func TestNameEnds(t *testing.T) {
	for c := range 256 {
		end := string([]byte{byte(c)})
		for _, word := range []string{"a", "a_1", xs(24)} {
			n := len(word)
			switch {
			case strings.Contains(" \t\n#", end):
				checkTokens(t, word+end, name(word, 0))
			case strings.Contains(singles, end):
				checkTokens(t, word+end, name(word, 0), symbol(end, n))
			case end == `"`:
				checkError(t, word+end, api.ErrEnd, n)
			case nameForm.FindString("a"+end) == "a":
				checkError(t, word+end, api.ErrChar, n)
			}
		}
	}
}

// P7.1: numbers of 1 to 10 digits, with leading zeros, have their values.
func TestNumbers(t *testing.T) {
	for _, test := range []struct {
		digits string
		n      int
	}{
		{"0", 0}, {"1", 1}, {"9", 9}, {"00", 0}, {"007", 7}, {"08", 8}, {"10", 10}, {"123456789", 123456789}, {"1000000000", 1000000000}, {"1000000001", 1000000001},
		{"2147483648", 1 << 31}, {"4294967296", 1 << 32}, {"9999999999", 9999999999}, {"0000000000", 0}, {"0000000001", 1}, {"0999999999", 999999999}, {"0071234567", 71234567},
	} {
		want := api.Token{Kind: api.TokNumber, Text: test.digits, N: test.n}
		checkTokens(t, test.digits, want)
		want.At = 1
		checkTokens(t, "-"+test.digits, symbol("-", 0), want)
	}
	for n := range 10 {
		for _, c := range digits {
			word := strings.Repeat(string(c), n+1)
			checkTokens(t, word, number(word, 0))
		}
	}
	for _, n := range []int{11, 12, 19, 20, 21, 400} {
		for _, first := range []string{"0", "1", "9"} {
			checkError(t, first+strings.Repeat("0", n-1), api.ErrNumber, 0)
			checkError(t, "a "+first+strings.Repeat("0", n-1)+";", api.ErrNumber, 2)
		}
	}
}

// P7.1: numbers followed directly by each byte, and by a comment, a text and symbols.
func TestNumberEnds(t *testing.T) {
	for c := range 256 {
		end := string([]byte{byte(c)})
		for _, word := range []string{"7", "007", "1234567890"} {
			n := len(word)
			switch {
			case strings.Contains(" \t\n#", end):
				checkTokens(t, word+end, number(word, 0))
			case strings.Contains(singles, end):
				checkTokens(t, word+end, number(word, 0), symbol(end, n))
			case end == `"`:
				checkTokens(t, word+end+end, number(word, 0), text("", n))
				checkError(t, word+end, api.ErrEnd, n)
			case end == "_" || c >= 'a' && c <= 'z' || c >= 'A' && c <= 'Z':
				checkError(t, word+end, api.ErrNumber, 0)
				checkError(t, ";"+word+end+" ", api.ErrNumber, 1)
			case c < '0' || c > '9':
				checkError(t, word+end, api.ErrChar, n)
			}
		}
	}
	checkTokens(t, `1"a"2<=3!=4`, number("1", 0), text("a", 1), number("2", 4), symbol("<=", 5), number("3", 7), symbol("!=", 8), number("4", 10))
	checkTokens(t, "1 a", number("1", 0), name("a", 2))
	checkTokens(t, "1#a", number("1", 0))
	checkTokens(t, "1#\na", number("1", 0), name("a", 3))
	checkTokens(t, "12 34", number("12", 0), number("34", 3))
}

// P7.1: contents of 0, 1, 200 and 201 bytes, with each byte that can be in them, written as it must be.
func TestContents(t *testing.T) {
	checkTokens(t, `""`, text("", 0))
	for c := range 256 {
		content := string([]byte{byte(c)})
		written := content
		switch content {
		case `"`, `\`:
			written = `\` + content
		case "\n":
			written = `\n`
		}
		for _, n := range []int{1, 2, 199, 200} {
			checkTokens(t, `"`+strings.Repeat(written, n)+`"`, text(strings.Repeat(content, n), 0))
			checkTokens(t, `; "`+strings.Repeat(written, n)+`"`, symbol(";", 0), text(strings.Repeat(content, n), 2))
		}
		for _, n := range []int{201, 202, 400, 5000} {
			checkError(t, `"`+strings.Repeat(written, n)+`"`, api.ErrLimit, 0)
			checkError(t, `; "`+strings.Repeat(written, n)+`" !`, api.ErrLimit, 2)
		}
		checkTokens(t, `"`+xs(199)+written+`"`, text(xs(199)+content, 0))
		checkError(t, `"`+xs(200)+written+`"`, api.ErrLimit, 0)
		checkTokens(t, `"a`+written+`b"c`, text("a"+content+"b", 0), name("c", len(written)+4))
	}
}

// P7.1: a content is what it stands for, and nothing in it is a gap, a comment or a token.
func TestContentsOfMany(t *testing.T) {
	checkTokens(t, `"\"\\\n"`, text("\"\\\n", 0))
	checkTokens(t, `"\\n"`, text(`\n`, 0))
	checkTokens(t, `"\\\n"`, text("\\\n", 0))
	checkTokens(t, `"\\"`, text(`\`, 0))
	checkTokens(t, `"\\" "\\"`, text(`\`, 0), text(`\`, 5))
	checkTokens(t, `"\"" "\""`, text(`"`, 0), text(`"`, 5))
	checkTokens(t, `"n\nn"`, text("n\nn", 0))
	checkTokens(t, `"#" # "`, text("#", 0))
	checkTokens(t, `"a # b";`, text("a # b", 0), symbol(";", 7))
	checkTokens(t, "\" \t\r\x00\x7f\x80\xff\"", text(" \t\r\x00\x7f\x80\xff", 0))
	checkTokens(t, `"é€😀"`, text("é€😀", 0))
	checkTokens(t, `"7x ! ?"`, text("7x ! ?", 0))
	checkTokens(t, `""""`, text("", 0), text("", 2))
	checkTokens(t, `"a""b"`, text("a", 0), text("b", 3))
	checkTokens(t, `a"b"c`, name("a", 0), text("b", 1), name("c", 4))
	checkTokens(t, `"b"7<="c"`, text("b", 0), number("7", 3), symbol("<=", 4), text("c", 6))
}

// P7.1: each byte behind a backslash but three is an ErrChar at the beginning of the text, also if the text does not end or is too long.
func TestUnknownEscapes(t *testing.T) {
	for c := range 256 {
		escape := `\` + string([]byte{byte(c)})
		if strings.Contains(`"\n`, escape[1:]) {
			checkTokens(t, `"`+escape+`"`, text(unescape.Replace(escape), 0))
			continue
		}
		for _, before := range []string{"", "a", `\\`, `\"`, `\n`, "#", xs(200), xs(201)} {
			for _, after := range []string{`"`, "", "a", "\n", `\`, `" !`} {
				checkError(t, `"`+before+escape+after, api.ErrChar, 0)
				checkError(t, `a "`+before+escape+after, api.ErrChar, 2)
			}
		}
	}
}

// P7.1: a line feed in a text is an ErrChar at its beginning, also if the text does not end or is too long.
func TestLineFeedsInTexts(t *testing.T) {
	for _, before := range []string{"", "a", `\\`, `\"`, `\n`, `\`, "#", " ", "7x", xs(200), xs(201), xs(5000)} {
		for _, after := range []string{"", `"`, "a", "\n", `\`, `" !`, `7x`} {
			checkError(t, `"`+before+"\n"+after, api.ErrChar, 0)
			checkError(t, `""; "`+before+"\n"+after, api.ErrChar, 4)
		}
	}
	checkTokens(t, "\"a\"\n\"b\"", text("a", 0), text("b", 4))
}

// P7.1: a text without an end is an ErrEnd at its beginning if it has no line feed and no unknown escape further on; it may be too long.
func TestTextsWithoutEnd(t *testing.T) {
	for _, before := range []string{"", "a ", ";", "# \"\n", "7 ", `"b"`, "\n"} {
		for _, rest := range []string{"", "a", " ", "#", "# a", "!", "7x", `\`, `\\`, `\"`, `\n`, `\\\`, `\"\`, "é", "\x00", "\t", `a\"b`, `\\\"`, xs(200), xs(201), xs(5000), xs(25) + " 12345678901"} {
			checkError(t, before+`"`+rest, api.ErrEnd, len(before))
			if !strings.HasSuffix(rest, `\`) {
				checkError(t, before+`"`+rest+"\n", api.ErrChar, len(before))
				checkError(t, before+`"`+rest+`\t`, api.ErrChar, len(before))
				checkError(t, before+`"`+rest+` \`, api.ErrEnd, len(before))
			}
		}
	}
}

// P7.1: every symbol, alone and directly before every other one; < and = are then one symbol.
func TestSymbols(t *testing.T) {
	for _, first := range symbols() {
		n := len(first)
		checkTokens(t, first, symbol(first, 0))
		checkTokens(t, "a"+first+"b", name("a", 0), symbol(first, 1), name("b", n+1))
		checkTokens(t, `"a"`+first+`"b"`, text("a", 0), symbol(first, 3), text("b", n+3))
		for _, second := range symbols() {
			if first+second == "<=" {
				checkTokens(t, first+second, symbol("<=", 0))
				continue
			}
			checkTokens(t, first+second, symbol(first, 0), symbol(second, n))
			checkTokens(t, first+" "+second, symbol(first, 0), symbol(second, n+1))
		}
	}
	checkTokens(t, "<==<!==", symbol("<=", 0), symbol("=", 2), symbol("<", 3), symbol("!=", 4), symbol("=", 6))
	checkTokens(t, "=<=", symbol("=", 0), symbol("<=", 1))
	checkTokens(t, "//--", symbol("/", 0), symbol("/", 1), symbol("-", 2), symbol("-", 3))
}

// P7.1: < and = with a gap between them are two symbols; ! with a gap behind it is none.
func TestSymbolsWithGaps(t *testing.T) {
	for _, gap := range []string{" ", "\t", "\n", "#\n", " # x\n\t", "#=\n"} {
		checkTokens(t, "<"+gap+"=", symbol("<", 0), symbol("=", len(gap)+1))
		checkTokens(t, "<="+gap+"=", symbol("<=", 0), symbol("=", len(gap)+2))
		checkError(t, "!"+gap+"=", api.ErrChar, 0)
		checkError(t, "a!"+gap+"=", api.ErrChar, 1)
	}
	for c := range 256 {
		if c == '=' {
			continue
		}
		next := string([]byte{byte(c)})
		for _, end := range []string{"", "=", ` "`} {
			checkError(t, "!"+next+end, api.ErrChar, 0)
			checkError(t, "7 !"+next+end, api.ErrChar, 2)
		}
		if got, err, at := lexer.Lex("<" + next); err == api.OK && got[0] != symbol("<", 0) || err != api.OK && at != 1 {
			t.Errorf("<%q: %v, error %d at %d", next, got, err, at)
		}
	}
	checkError(t, "!", api.ErrChar, 0)
	checkError(t, "a !", api.ErrChar, 2)
}

// P7.1: a comment ends before the next line feed or with the text, and may have any other byte in it.
func TestComments(t *testing.T) {
	for c := range 256 {
		if c == '\n' {
			continue
		}
		inside := string([]byte{byte(c)})
		checkTokens(t, "#"+inside)
		checkTokens(t, "#"+inside+"\n")
		checkTokens(t, "#"+inside+"\na", name("a", 3))
		checkTokens(t, "a#"+inside+"\nb", name("a", 0), name("b", 4))
		checkTokens(t, "a #"+inside+"7x\n# "+inside+"\n;", name("a", 0), symbol(";", 11))
		checkTokens(t, "a #"+inside+inside, name("a", 0))
	}
	checkTokens(t, "#")
	checkTokens(t, "#\n")
	checkTokens(t, "##\n#\n\n#")
	checkTokens(t, "# \"\na # \"", name("a", 4))
	checkTokens(t, "1# 2 # 3\n4", number("1", 0), number("4", 9))
	checkTokens(t, `"a"#"b"`+"\n"+`"c"`, text("a", 0), text("c", 8))
	checkError(t, "# !\n!", api.ErrChar, 4)
	checkError(t, "# x\r!\n7x", api.ErrNumber, 6)
}

// P7.1: every byte that begins no token is an ErrChar, at the beginning, at the end, behind every kind of token, and behind gaps.
func TestStrangers(t *testing.T) {
	count := 0
	for c := range 256 {
		stranger := string([]byte{byte(c)})
		if strings.Contains(letters+digits+singles+" \t\n#\"", stranger) || c >= 'A' && c <= 'Z' || c >= 'a' && c <= 'z' {
			continue
		}
		count++
		for _, before := range []string{"", " ", "\t", "\n", "# x\n", "a ", "7 ", `""`, `"" `, "; ", ";", "<", "<=", "!=", "a;7\n"} {
			for _, after := range []string{"", " ", "a", "7", `"`, ";", "\n", "\x00", " 7x"} {
				checkError(t, before+stranger+after, api.ErrChar, len(before))
			}
		}
		if c != '_' {
			checkError(t, "a"+stranger, api.ErrChar, 1)
			checkError(t, "7"+stranger, api.ErrChar, 1)
		}
	}
	if want := 256 - 52 - 10 - 14 - 5; count != want {
		t.Errorf("%d bytes begin no token, not %d", count, want)
	}
}

// P7.1: 5000 tokens of any kind, and gaps behind them, are read; the next one is an ErrLimit at its offset.
func TestManyTokens(t *testing.T) {
	for _, part := range []string{";", "a ", "7\n", `""`, "<=", "!=", "a#\n"} {
		full := strings.Repeat(part, 5000)
		for _, gap := range []string{"", " ", strings.Repeat("\n", 20000-len(full)), "#!", "# ;\n"} {
			if len(full)+len(gap) > 20000 {
				continue
			}
			got, err, at := lexer.Lex(full + gap)
			if err != api.OK || at != 0 || len(got) != 5000 || got[0].At != 0 || got[4999].At != 4999*len(part) {
				t.Fatalf("5000 times %q: %d tokens, error %d at %d", part, len(got), err, at)
			}
			if strings.HasPrefix(gap, "#!") {
				continue
			}
			for _, next := range []string{";", "a", "7", `""`, "<", "<=", "!=", "1234567890", "; !", "a 7x", ";;", `;"`} {
				if len(full)+len(gap)+len(next) <= 20000 {
					checkError(t, full+gap+next, api.ErrLimit, len(full)+len(gap))
				}
			}
		}
	}
	checkError(t, strings.Repeat(";", 20000), api.ErrLimit, 5000)
}

// P7.1: what should be the token behind the 5000th, but is none, has its own error; errors behind it are not reached.
func TestErrorsBehindManyTokens(t *testing.T) {
	full := strings.Repeat(";", 5000)
	for _, w := range append(wrongs(), wrong{`"`, api.ErrEnd}, wrong{`"a\`, api.ErrEnd}, wrong{`"` + xs(201), api.ErrEnd}) {
		checkError(t, full+w.text, w.err, 5000)
		checkError(t, full+" #\n"+w.text, w.err, 5003)
		checkError(t, full[1:]+w.text, w.err, 4999)
		checkError(t, full[1:]+";"+w.text, w.err, 5000)
		checkError(t, full+";"+w.text, api.ErrLimit, 5000)
		if w.err != api.ErrEnd {
			checkError(t, full+" "+w.text+" "+full, w.err, 5001)
		}
	}
	checkError(t, "!"+full+";", api.ErrChar, 0)
	checkError(t, full[2500:]+"7x"+full, api.ErrNumber, 2500)
}

// P7.1: of two errors the one farther left counts, whichever they are; what is before it does not matter.
func TestErrorsInOrder(t *testing.T) {
	for _, before := range []string{"", "a ", "7;", `"b" `, "# !\n", " \t", "x<="} {
		for _, first := range wrongs() {
			checkError(t, before+first.text, first.err, len(before))
			for _, second := range append(wrongs(), wrong{`"`, api.ErrEnd}, wrong{";", api.OK}, wrong{`"a"`, api.OK}) {
				for _, between := range []string{" ", "\n", " a ", "#\n"} {
					checkError(t, before+first.text+between+second.text, first.err, len(before))
				}
			}
		}
	}
}

// P7.1: every text of up to four bytes out of those that matter, held against the model.
func TestShortTexts(t *testing.T) {
	bytes := "a_7\"\\n \t\n#<=!;\x00\xe9"
	errors := map[api.Errno]int{}
	var extend func(source string)
	extend = func(source string) {
		errors[checkModel(t, source)]++
		if len(source) < 4 {
			for i := range len(bytes) {
				extend(source + bytes[i:i+1])
			}
		}
	}
	extend("")
	for _, err := range []api.Errno{api.OK, api.ErrChar, api.ErrNumber, api.ErrEnd} {
		if errors[err] < 1000 {
			t.Errorf("error %d: %d texts", err, errors[err])
		}
	}
}

// P7.1, P1: texts of any bytes, of bytes that matter, and of pieces that are near the limits, held against the model.
func TestAnyTexts(t *testing.T) {
	r := random()
	pieces := append(symbols(), " ", "\n", "#", "a", "7", `"`, `\`, `\"`, `\n`, `\\`, xs(23), xs(24), xs(25), "999999999", "1234567890", `"`+xs(200)+`"`, `"`+xs(201)+`"`, "!", "_", "\xff")
	errors := map[api.Errno]int{}
	for range 60000 {
		source := ""
		switch r.IntN(3) {
		case 0:
			for range r.IntN(12) {
				source += string([]byte{byte(r.IntN(256))})
			}
		case 1:
			source = pick(r, "ab_71\"\"\\\\n \t\n##<=!;:", r.IntN(40))
		default:
			for range r.IntN(12) {
				source += pieces[r.IntN(len(pieces))]
			}
		}
		errors[checkModel(t, source)]++
	}
	for _, err := range []api.Errno{api.OK, api.ErrChar, api.ErrNumber, api.ErrEnd, api.ErrLimit} {
		if errors[err] < 300 {
			t.Errorf("error %d: %d texts", err, errors[err])
		}
	}
}

// P7.1: the tokens of texts are those of which the texts were written.
func TestWritten(t *testing.T) {
	r := random()
	for range 4000 {
		s := someText(r, r.IntN(20))
		checkTokens(t, s.text, s.tokens...)
	}
}

// P7.1, P7.5: a text with an error at some place has it there, whatever is behind it, and the text before it has none.
func TestWrittenWithErrors(t *testing.T) {
	r := random()
	list := wrongs()
	for range 4000 {
		s, w, rest := someText(r, r.IntN(10)), list[r.IntN(len(list))], someText(r, r.IntN(10))
		before := s.text + "\n"
		checkError(t, before+w.text+" "+rest.text, w.err, len(before))
		checkTokens(t, before, s.tokens...)
	}
}

// isGap reports whether a text is a gap or empty. A comment may end with the text.
func isGap(source string) bool { return gapForm.FindString(source) == source }

// P7.2: offsets increase, names, numbers and symbols stand at them, texts begin at them, and gaps alone are around them.
func TestPlaces(t *testing.T) {
	r := random()
	for range 4000 {
		source := someText(r, r.IntN(20)).text
		tokens, err, _ := lexer.Lex(source)
		if err != api.OK {
			t.Fatalf("%q: error %d", source, err)
		}
		end := 0
		for i, token := range tokens {
			if i > 0 && token.At <= tokens[i-1].At || token.At < end {
				t.Fatalf("%q: token %d at %d", source, i, token.At)
			}
			if !isGap(source[end:token.At]) || !strings.HasPrefix(source[token.At:], spell(token)) {
				t.Fatalf("%q: token %d is %q at %d", source, i, spell(token), token.At)
			}
			end = token.At + len(spell(token))
		}
		if !isGap(source[end:]) {
			t.Fatalf("%q: %q is left", source, source[end:])
		}
	}
}

// P7.3: tokens that are written with a blank after each are the same ones, at the places where they were written.
func TestAgain(t *testing.T) {
	r := random()
	for range 4000 {
		first, _, _ := lexer.Lex(someText(r, r.IntN(20)).text)
		again := ""
		want := slices.Clone(first)
		for i, token := range first {
			want[i].At = len(again)
			again += spell(token) + " "
		}
		checkTokens(t, again, want...)
	}
	dense, _, _ := lexer.Lex(strings.Repeat(";<=a<7\"\"", 800))
	again := ""
	for i, token := range dense {
		dense[i].At = len(again)
		again += spell(token) + " "
	}
	checkTokens(t, again, dense...)
}

// P7.4: two texts without an error, with a line feed between them, have the tokens of both.
func TestParts(t *testing.T) {
	r := random()
	list := []sample{{}, {text: " "}, {text: "#"}, {text: "a # b", tokens: []api.Token{name("a", 0)}}, {text: "7", tokens: []api.Token{number("7", 0)}}, {text: "<", tokens: []api.Token{symbol("<", 0)}}, {text: "=", tokens: []api.Token{symbol("=", 0)}}, {text: xs(24), tokens: []api.Token{name(xs(24), 0)}}}
	for range 60 {
		list = append(list, someText(r, r.IntN(12)))
	}
	for _, a := range list {
		for _, b := range list {
			first, err, _ := lexer.Lex(a.text)
			second, other, _ := lexer.Lex(b.text)
			if err != api.OK || other != api.OK {
				t.Fatalf("%q, %q: errors %d, %d", a.text, b.text, err, other)
			}
			checkTokens(t, a.text+"\n"+b.text, slices.Concat(first, shifted(second, len(a.text)+1))...)
			checkTokens(t, a.text+"\n"+b.text, slices.Concat(a.tokens, shifted(b.tokens, len(a.text)+1))...)
		}
	}
}

// P7.4: two texts together are held to the limits.
func TestPartsAtLimits(t *testing.T) {
	half := strings.Repeat(";", 2500)
	if got, err, _ := lexer.Lex(half + "\n" + half); err != api.OK || len(got) != 5000 || got[2500].At != 2501 {
		t.Errorf("5000 tokens: %d, error %d", len(got), err)
	}
	checkError(t, half+"\n"+half+";", api.ErrLimit, 5001)
	checkTokens(t, strings.Repeat(" ", 10000)+"\n"+strings.Repeat(" ", 9999))
	checkError(t, strings.Repeat(" ", 10000)+"\n"+strings.Repeat(" ", 10000), api.ErrLimit, -1)
}

// P7.5: the text before the offset of an error has no error, for texts of any bytes.
func TestBeginnings(t *testing.T) {
	r := random()
	count := 0
	for range 40000 {
		source := pick(r, "ab_71\"\\n \t\n#<=!;:", r.IntN(30))
		if _, err, at := lexer.Lex(source); err != api.OK {
			count++
			if _, before, none := lexer.Lex(source[:at]); before != api.OK || none != 0 {
				t.Fatalf("%q: error %d at %d, and before it %d at %d", source, err, at, before, none)
			}
		}
	}
	if count < 10000 {
		t.Errorf("only %d texts had an error", count)
	}
	for _, w := range append(wrongs(), wrong{";", api.ErrLimit}) {
		source := strings.Repeat("a ", 5000) + w.text
		if _, err, at := lexer.Lex(source); err != w.err || at != 10000 {
			t.Errorf("%s: error %d at %d", show(w.text), err, at)
		}
		if got, err, at := lexer.Lex(source[:10000]); err != api.OK || at != 0 || len(got) != 5000 {
			t.Errorf("5000 tokens: %d, error %d at %d", len(got), err, at)
		}
	}
}

// gaps returns gaps with which a text can go on.
func gaps() []string {
	return []string{" ", "\t", "\n", "  \t\n\n", "#\n", "# a \"7x!\n", "#\n#\n ", " # #\n", "#\xff\x00\r\n", "\n# " + xs(300) + "\n"}
}

// P7.6: further gaps at the beginning, at the end and after each token change offsets alone.
func TestFurtherGaps(t *testing.T) {
	r := random()
	for range 150 {
		s := someText(r, r.IntN(8))
		for _, gap := range gaps() {
			checkTokens(t, gap+s.text, shifted(s.tokens, len(gap))...)
			checkTokens(t, s.text+gap, s.tokens...)
			checkTokens(t, s.text+gap+"# at the end", s.tokens...)
			everywhere, want := s.text, slices.Clone(s.tokens)
			for i, token := range slices.Backward(s.tokens) {
				end := token.At + len(spell(token))
				checkTokens(t, s.text[:end]+gap+s.text[end:], slices.Concat(s.tokens[:i+1], shifted(s.tokens[i+1:], len(gap)))...)
				everywhere = everywhere[:end] + gap + everywhere[end:]
				want = slices.Concat(want[:i+1], shifted(want[i+1:], len(gap)))
			}
			checkTokens(t, everywhere, want...)
		}
	}
}

// P7.6: gaps before an error move it, and gaps behind it change nothing.
func TestFurtherGapsAtErrors(t *testing.T) {
	for _, gap := range gaps() {
		for _, w := range append(wrongs(), wrong{`"`, api.ErrEnd}) {
			checkError(t, gap+w.text, w.err, len(gap))
			checkError(t, "a"+gap+w.text, w.err, len(gap)+1)
			checkError(t, "a;"+gap+w.text, w.err, len(gap)+2)
			if w.err != api.ErrEnd {
				checkError(t, w.text+gap, w.err, 0)
			}
		}
	}
}

// P7.6: gaps count as bytes, but not as tokens.
func TestGapsAtLimits(t *testing.T) {
	checkTokens(t, strings.Repeat("#\n", 9999)+"a ", name("a", 19998))
	checkError(t, strings.Repeat("#\n", 10000)+"a", api.ErrLimit, -1)
	for _, part := range []string{" ", "\n", "\t", "#\n", "\n\n"} {
		if got, err, at := lexer.Lex(strings.Repeat(";"+part, 5000)); err != api.OK || at != 0 || len(got) != 5000 {
			t.Errorf("%q: %d tokens, error %d at %d", part, len(got), err, at)
		}
	}
}

// P7.7: what value.Text writes of a text is one token with this content.
func TestTextsOfValues(t *testing.T) {
	r := random()
	check := func(content string) {
		t.Helper()
		checkTokens(t, value.Text(api.Value{Kind: api.KindText, Text: content}), text(content, 0))
	}
	for c := range 256 {
		one := string([]byte{byte(c)})
		for n := range 201 {
			check(strings.Repeat(one, n))
		}
		for d := range 256 {
			check(one + string([]byte{byte(d)}))
		}
	}
	for range 5000 {
		content := make([]byte, r.IntN(201))
		for i := range content {
			content[i] = byte(r.IntN(256))
		}
		check(string(content))
		check(pick(r, "\"\\\nn#", r.IntN(201)))
	}
}

// P7.7: what value.Text writes of a number from 0 to 1000000000 is one token with this value.
func TestTextsOfNumbers(t *testing.T) {
	check := func(n int) {
		t.Helper()
		written := value.Text(api.Value{Kind: api.KindNumber, N: n})
		checkTokens(t, written, api.Token{Kind: api.TokNumber, Text: written, N: n})
	}
	for n := range 2000 {
		check(n)
		check(1000000000 - n)
	}
	for power := 1; power <= 1000000000; power *= 10 {
		check(power)
		check(power - 1)
		check(min(power+1, 1000000000))
	}
	r := random()
	for range 5000 {
		check(r.IntN(1000000001))
	}
	checkTokens(t, value.Text(api.Value{Kind: api.KindNumber, N: -12}), symbol("-", 0), number("12", 1))
	checkTokens(t, value.Text(api.Value{Kind: api.KindDay, N: 12}), symbol("@", 0), number("12", 1))
}

// results returns what Lex returns for many texts.
func results() string {
	r := random()
	var out strings.Builder
	for range 400 {
		for _, source := range []string{someText(r, 9).text, pick(r, "a7\"\\n \n#<=!;", 20), strings.Repeat("; ", r.IntN(5003)), strings.Repeat(" ", 20000+r.IntN(2))} {
			tokens, err, at := lexer.Lex(source)
			fmt.Fprintln(&out, tokens, err, at)
		}
	}
	return out.String()
}

// P3: calls with equal arguments have equal results, whatever was called in between.
func TestIndependence(t *testing.T) {
	first := results()
	for range 3 {
		if results() != first {
			t.Fatal("the results change")
		}
	}
}

// LANGUAGE.md, rule 7: the tokens of two calls share no memory: changing and extending those of one changes no others.
func TestResultsAreNew(t *testing.T) {
	r := random()
	for range 200 {
		s := someText(r, 1+r.IntN(40))
		first, _, _ := lexer.Lex(s.text)
		second, _, _ := lexer.Lex(s.text)
		for i := range first {
			first[i] = api.Token{Kind: 9, Text: "changed", N: -1, At: -1}
		}
		if !slices.Equal(second, s.tokens) {
			t.Fatalf("%q: the tokens of another call change to %v", s.text, second)
		}
		first = append(first, symbol("!", -2))
		second = append(second, symbol("?", -3))
		if first[len(s.tokens)] != symbol("!", -2) || !slices.Equal(second[:len(s.tokens)], s.tokens) {
			t.Fatalf("%q: the tokens of two calls share memory", s.text)
		}
		checkTokens(t, s.text, s.tokens...)
	}
}

// LANGUAGE.md, rule 7: a text stays as it is and is not kept: no token has a part of its memory.
func TestTextsAreNotKept(t *testing.T) {
	r := random()
	for range 500 {
		s := someText(r, 1+r.IntN(20))
		source := strings.Clone(s.text)
		tokens, _, _ := lexer.Lex(source)
		if source != s.text {
			t.Fatalf("%q becomes %q", s.text, source)
		}
		from := reflect.ValueOf(source).Pointer()
		for _, token := range tokens {
			at := reflect.ValueOf(token.Text).Pointer()
			if token.Text != "" && at < from+uintptr(len(source)) && from < at+uintptr(len(token.Text)) {
				t.Fatalf("%q: the token %q has memory of the text", source, token.Text)
			}
		}
	}
}
