package parser_test

import (
	"fmt"
	"math/rand/v2"
	"slices"
	"strings"
	"testing"

	"cleanse/api"
	"cleanse/lexer"
)

// vocabulary returns tokens of all kinds: every key word, also as the content of a text, and every symbol; ":" is nowhere in the grammar.
func vocabulary() []string {
	out := []string{":", ";", ",", ".", "(", ")", "{", "}", "=", "<", "+", "-", "/", "@", "!=", "<=", "x", "t1", "Table", "0", "5", "9999999999", `""`, `";"`, `"("`, `"5"`, `"="`}
	for _, word := range keyWords {
		out = append(out, word, `"`+word+`"`)
	}
	return out
}

// join returns a text of tokens, and the offset of the one with an index.
func join(tokens []string, index int) (string, int) {
	at := 0
	for _, token := range tokens[:index] {
		at += len(token) + 1
	}
	return strings.Join(tokens, " "), at
}

// P8.1: an error of layer 7 comes before all others, with its offset, wherever it is.
func TestErrorsOfTokens(t *testing.T) {
	list := []struct {
		text string
		err  api.Errno
	}{{"?", api.ErrChar}, {"!", api.ErrChar}, {"_", api.ErrChar}, {"\x00", api.ErrChar}, {"é", api.ErrChar}, {`"\t"`, api.ErrChar}, {"7x", api.ErrNumber}, {"12345678901", api.ErrNumber}, {strings.Repeat("x", 25), api.ErrLimit}, {`"` + strings.Repeat("x", 201) + `"`, api.ErrLimit}, {`"`, api.ErrEnd}, {`"source s trust 5;`, api.ErrEnd}}
	befores := []string{"", " ", "source s trust 5;", "source s trust ", "source ", "x ", ";", "; ; ", "source source source ", "query q = t(", "table t () ", strings.Repeat("source s trust 5;", 201), "query q = " + nested("project( on)", 13, "t") + ";"}
	for _, before := range befores {
		for _, wrong := range list {
			checkError(t, before+wrong.text, wrong.err, len(before))
			if wrong.err != api.ErrEnd {
				for _, after := range []string{" ", " ;", " source s trust 5;", " ? 7x", ` "`} {
					checkError(t, before+wrong.text+after, wrong.err, len(before))
				}
			}
		}
	}
}

// P8.1: texts and numbers of tokens beyond the limits of layer 7 have its errors.
func TestLimitsOfTokens(t *testing.T) {
	for _, source := range []string{strings.Repeat(" ", 20001), strings.Repeat("source s trust 5;", 1177), "x" + strings.Repeat(" ", 20000), strings.Repeat("?", 20001)} {
		checkError(t, source, api.ErrLimit, -1)
	}
	checkError(t, strings.Repeat(";", 5000), api.ErrSyntax, 0)
	checkError(t, strings.Repeat(";", 5001), api.ErrLimit, 5000)
	checkError(t, strings.Repeat("source s trust 5;", 1000), api.ErrLimit, 200*17)
	checkError(t, strings.Repeat("source s trust 5;", 1000)+" x", api.ErrLimit, 17001)
	checkError(t, strings.Repeat(";", 5000)+"?", api.ErrChar, 5000)
	for _, source := range []string{"x", "?", "x ?", "x \"", "7x", strings.Repeat(";", 5001), strings.Repeat(" ", 20001)} {
		_, lexErr, lexAt := lexer.Lex(source)
		if lexErr == api.OK {
			lexErr, lexAt = api.ErrSyntax, 0
		}
		checkError(t, source, lexErr, lexAt)
	}
}

// P8.1: behind each token of each item but its last one, the text ends too early; gaps do not matter.
func TestEndsBehindEachToken(t *testing.T) {
	for _, s := range samples() {
		tokens := tokensOf(s.text)
		for i := 1; i < len(tokens); i++ {
			for _, before := range []string{"", "source s trust 5;", "match m on t at 1 { }\n"} {
				source := before + strings.Join(tokens[:i], " ")
				for _, gap := range []string{"", " ", "\n\n", " # x", "#\n\t"} {
					checkError(t, source+gap, api.ErrEnd, len(source)+len(gap))
				}
			}
		}
		checkItems(t, strings.Join(tokens, " "), s.item)
	}
}

// P8.1: at each token of each item, and behind it, another token is an ErrSyntax if no program goes on with it; held against the grammar.
func TestOtherTokensAtEachPlace(t *testing.T) {
	m := newModel()
	words := vocabulary()
	errors := map[api.Errno]int{}
	for _, s := range samples() {
		tokens := tokensOf(s.text)
		for i := range tokens {
			source, at := join(slices.Concat(tokens[:i], []string{":"}, tokens[i+1:]), i)
			checkError(t, source, api.ErrSyntax, at)
			checkError(t, source[:at+1], api.ErrSyntax, at)
			source, at = join(slices.Concat(tokens[:i], []string{":"}, tokens[i:]), i)
			checkError(t, source, api.ErrSyntax, at)
			source, at = join(slices.Concat(tokens[:i], []string{`"` + strings.Trim(tokens[i], `"`) + `"`}, tokens[i+1:]), i)
			errors[checkModel(t, m, source)]++
			errors[checkModel(t, m, strings.Join(slices.Concat(tokens[:i], tokens[i+1:]), " "))]++
			for _, word := range words {
				errors[checkModel(t, m, strings.Join(slices.Concat(tokens[:i], []string{word}, tokens[i+1:]), " "))]++
				errors[checkModel(t, m, strings.Join(slices.Concat(tokens[:i], []string{word}, tokens[i:]), " "))]++
			}
		}
	}
	for _, err := range []api.Errno{api.OK, api.ErrSyntax, api.ErrEnd} {
		if errors[err] < 200 {
			t.Errorf("error %d: %d texts", err, errors[err])
		}
	}
}

// P8.1: an item begins with one of ten key words, and with nothing else.
func TestBeginningsOfItems(t *testing.T) {
	for _, before := range []string{"", " # x\n", "source s trust 5;", "match m on t at 1 { } "} {
		for _, word := range vocabulary() {
			if slices.Contains([]string{"table", "source", "block", "match", "keep", "unique", "depend", "include", "deny", "query"}, word) {
				checkError(t, before+word, api.ErrEnd, len(before+word))
				checkError(t, before+word+" :", api.ErrSyntax, len(before+word)+1)
				checkError(t, before+strings.ToUpper(word), api.ErrSyntax, len(before))
				continue
			}
			checkError(t, before+word, api.ErrSyntax, len(before))
			checkError(t, before+word+" s trust 5;", api.ErrSyntax, len(before))
		}
	}
}

// P8.1: 200 items of each kind are read; the one behind them is an ErrLimit at its first token, whatever this is.
func TestNumbersOfItems(t *testing.T) {
	for _, s := range samples() {
		if len(s.text) > 98 || len(tokensOf(s.text)) > 24 {
			continue
		}
		for _, n := range []int{1, 2, 199, 200} {
			checkItems(t, strings.Repeat(s.text, n), slices.Repeat([]api.Item{s.item}, n)...)
		}
		full := strings.Repeat(s.text, 200)
		for _, gap := range []string{"", "\n", "#x\n  "} {
			checkItems(t, full+gap, slices.Repeat([]api.Item{s.item}, 200)...)
			checkError(t, full+gap+s.text, api.ErrLimit, len(full+gap))
			checkError(t, full+gap+"table", api.ErrLimit, len(full+gap))
		}
	}
	full := strings.Repeat("source s trust 5;", 200)
	for _, word := range vocabulary() {
		checkError(t, full+" "+word, api.ErrLimit, 3401)
		checkError(t, full+" "+word+" : source", api.ErrLimit, 3401)
		checkError(t, full+"# "+strings.Trim(word, `"`)+"\n "+word, api.ErrLimit, len(full)+4+len(strings.Trim(word, `"`)))
	}
}

// P8.1: errors in the item with the index 199, and before it, come before the limit of items.
func TestErrorsBeforeTheLimitOfItems(t *testing.T) {
	most := strings.Repeat("source s trust 5;", 199)
	checkError(t, most+"source s trust", api.ErrEnd, len(most)+14)
	checkError(t, most+"source s trust x; x", api.ErrSyntax, len(most)+15)
	checkError(t, most+"x x", api.ErrSyntax, len(most))
	checkError(t, most+"source s source s", api.ErrSyntax, len(most)+9)
	checkError(t, ":"+most+most, api.ErrSyntax, 0)
	checkError(t, most[:17*100]+"query q = "+nested("project( on)", 13, "t")+";"+most, api.ErrLimit, 17*100+10+12*8)
	checkError(t, most+most, api.ErrLimit, 3400)
	checkItems(t, most, slices.Repeat([]api.Item{{Kind: api.ItemOrigin, Name: "s", N: 5}}, 199)...)
}

// nested returns the text of an expression of so many levels: an operation within itself, each one at the blank of the one around it, and another text at the last level.
func nested(operation string, levels int, inner string) string {
	before, after, _ := strings.Cut(operation, " ")
	return strings.Repeat(before, levels-1) + inner + strings.Repeat(" "+after, levels-1)
}

// operations returns each operation with a blank in the place of each kid.
func operations() []string {
	return []string{"select( where a = 1)", "project( on)", "project( on a)", "join( ,u)", "join(u, )", "union( ,u)", "union(u, )", "minus( ,u)", "minus(u, )", "rename( ,a as b)", "group( on with count as n)", "group( on a with sum b as n)"}
}

// P8.1: expressions of 12 levels are read, the first one of the level 13 is an ErrLimit at its first token, by each operation and in each of its kids.
func TestLevels(t *testing.T) {
	for _, operation := range operations() {
		before, _, _ := strings.Cut(operation, " ")
		place := strings.Count(before, "u,")
		for levels := 1; levels <= 20; levels++ {
			source := "query q = " + nested(operation, levels, "t") + ";"
			if levels > 12 {
				// The kids of an operation have the same level, so that it is the first one that is beyond the limit.
				at := 10 + 11*len(before) + strings.Index(before, "(") + 1
				checkError(t, source, api.ErrLimit, at)
				checkError(t, source[:at+1], api.ErrLimit, at)
				checkError(t, source[:at], api.ErrEnd, at)
				continue
			}
			x := parse(t, source).Items[0].Expr
			for level := 1; level < levels; level++ {
				if x.At != 10+(level-1)*len(before) || x.Kind == api.ExprTable {
					t.Fatalf("%s: the level %d is %+v", source, level, x)
				}
				x = x.Kids[place]
			}
			if want := (api.Expr{Kind: api.ExprTable, Table: "t", At: 10 + (levels-1)*len(before)}); !isEqual(program(query(x)), program(query(want))) {
				t.Fatalf("%s: the level %d is %+v", source, levels, x)
			}
		}
	}
}

// P8.1: what stands in the place of an expression of the level 13 is an ErrLimit, also if it is no expression; in that of the level 12 this is an ErrSyntax.
func TestLevelsWithoutExpressions(t *testing.T) {
	for _, operation := range operations() {
		before, _, _ := strings.Cut(operation, " ")
		for _, word := range vocabulary() {
			for _, gap := range []string{"", " # t\n"} {
				at := 10 + 11*len(before) + len(gap)
				if lexed, _, _ := lexer.Lex(word); lexed[0].Kind != api.TokName {
					checkError(t, "query q = "+nested(operation, 12, gap+word)+";", api.ErrSyntax, at)
				}
				if !strings.HasSuffix(before, "(") {
					continue
				}
				at += len(before)
				checkError(t, "query q = "+nested(operation, 13, gap+word)+";", api.ErrLimit, at)
				checkError(t, "query q = "+nested(operation, 13, gap+word), api.ErrLimit, at)
			}
		}
		first := before[:strings.Index(before, "(")+1]
		for _, end := range []string{"", " ", "# t\n"} {
			source := "query q = " + strings.Repeat(before, 11) + first + end
			checkError(t, source, api.ErrEnd, len(source))
		}
		checkError(t, "query q = "+nested(operation, 12, first+")")+";", api.ErrLimit, 10+11*len(before)+len(first))
	}
}

// P8.1: each kid has one level more than its operation, whatever is beside it, and each query begins with the level 1.
func TestLevelsOfKids(t *testing.T) {
	for _, operation := range operations() {
		before, _, _ := strings.Cut(operation, " ")
		deep, deeper := nested(operation, 11, "t"), nested(operation, 12, "t")
		for _, both := range []string{"join", "union", "minus"} {
			parse(t, "query q = "+both+"("+deep+","+deep+"); query r = "+both+"("+deep+","+deep+");")
			parse(t, "query q = "+deeper+"; query r = "+deeper+";")
			for _, source := range []string{"query q = " + both + "(", "query q = " + both + "(" + deep + ",", "query q = " + deeper + "; query r = " + both + "(" + deep + ","} {
				checkError(t, source+deeper+");", api.ErrLimit, len(source)+10*len(before)+strings.Index(before, "(")+1)
			}
			checkError(t, "query q = "+both+"("+deep+" "+deeper+");", api.ErrSyntax, 12+len(both)+len(deep))
		}
	}
}

// P8.1: of two errors the one at the earlier token counts.
func TestFirstErrors(t *testing.T) {
	deep := nested("project( on)", 13, "t")
	checkError(t, "query q = "+deep+" : ;", api.ErrLimit, 10+12*8)
	checkError(t, "query q : "+deep+";", api.ErrSyntax, 8)
	checkError(t, "query q = join(t t, "+deep+");", api.ErrSyntax, 17)
	checkError(t, "query q = project("+nested("project( on)", 12, "t : ")+");", api.ErrLimit, 10+12*8)
	checkError(t, "query q = "+nested("project( on)", 12, "t : ")+";", api.ErrSyntax, 10+11*8+2)
	checkError(t, "query q = "+deep[:8*12], api.ErrEnd, 10+8*12)
	checkError(t, strings.Repeat("source s trust 5;", 200)+": :", api.ErrLimit, 3400)
	checkError(t, "source s trust 5; : :", api.ErrSyntax, 18)
	checkError(t, "source : trust :", api.ErrSyntax, 7)
}

// spelled returns a token for which a part of the grammar stands.
func spelled(r *rand.Rand, p part) string {
	switch p.text {
	case "NAME", "SIDE", "FIRST":
		for {
			if name := someName(r); takes(p, api.Token{Kind: api.TokName, Text: name}) {
				return name
			}
		}
	case "INT":
		return fmt.Sprint(someNumber(r))
	case "TEXT":
		return pick(r, `""`, `"x"`, `";"`, `"\"\\\n"`)
	}
	return p.text
}

// wander returns tokens that the grammar permits, with some probability of a wrong one at each place.
func wander(r *rand.Rand, m model, most int, wrong float64) []string {
	var out []string
	words := vocabulary()
	readings := []*hope{nil}
	for len(out) < most {
		if readings[0] == nil {
			readings = m.items
		}
		h := readings[r.IntN(len(readings))]
		token := words[r.IntN(len(words))]
		if h.kind != "rule" && r.Float64() >= wrong {
			token = spelled(r, h.part)
		}
		out = append(out, token)
		lexed, _, _ := lexer.Lex(token)
		var after []*hope
		for _, h := range readings {
			if takes(h.part, lexed[0]) {
				after = append(after, m.open(h.next)...)
			}
		}
		if len(after) > 0 {
			readings = after
		}
	}
	return out
}

// P8.1, P1: sequences of tokens that are mostly as the grammar permits, held against it.
func TestSequencesOfTokens(t *testing.T) {
	r := random()
	m := newModel()
	errors := map[api.Errno]int{}
	for range 20000 {
		tokens := wander(r, m, 1+r.IntN(50), []float64{0, 0.01, 0.03, 0.2, 1}[r.IntN(5)])
		errors[checkModel(t, m, strings.Join(tokens, pick(r, " ", "\n", " # x\n")))]++
	}
	for _, err := range []api.Errno{api.OK, api.ErrSyntax, api.ErrEnd} {
		if errors[err] < 300 {
			t.Errorf("error %d: %d texts", err, errors[err])
		}
	}
	for range 40 {
		tokens := wander(r, m, 3500, 0)
		source := strings.Join(tokens, " ")
		errors[checkModel(t, m, source[:min(20000, len(source))])]++
	}
	if errors[api.ErrLimit] < 5 {
		t.Errorf("%d texts were beyond a limit", errors[api.ErrLimit])
	}
}

// P1: texts of any bytes have an error or a tree, held against the grammar.
func TestAnyTexts(t *testing.T) {
	r := random()
	m := newModel()
	for range 20000 {
		source := make([]byte, r.IntN(40))
		for i := range source {
			source[i] = byte(r.IntN(256))
			if r.IntN(3) > 0 {
				source[i] = " \n;(),.=<{}a5\"#"[r.IntN(15)]
			}
		}
		checkModel(t, m, pick(r, "", "source ", "keep a", "query q=", "deny d t x where")+string(source))
	}
}

// P1: programs as large as the limits of layer 7 permit have their trees: lists have no limits of their own.
func TestLarge(t *testing.T) {
	long := func(before, element, between, after string, tokens int) string {
		n := 1
		for out := before + element; len(out)+len(between+element+after) <= 20000 && n*tokens+20 < 5000; n++ {
			out += between + element
		}
		return before + element + strings.Repeat(between+element, n-1) + after
	}
	for _, test := range []struct {
		text  string
		least int
		count func(x api.Item) int
	}{
		{long("table t(", "a text", ",", ")key a;", 3), 1600, func(x api.Item) int { return len(x.Columns) }},
		{long("table t(a text)key ", "a", ",", ";", 2), 2400, func(x api.Item) int { return len(x.Names) }},
		{long("match m on t at 1{", "a edit least 1 gives 1;", "", "}", 7), 700, func(x api.Item) int { return len(x.Terms) }},
		{long("unique u on t(", "a", ",", ");", 2), 2400, func(x api.Item) int { return len(x.Names) }},
		{long("depend d on t(a)to b where ", "c=1", ",", ";", 4), 1200, func(x api.Item) int { return len(x.Fixed) }},
		{long("deny d ", "t x", ",", " where a=b;", 3), 1600, func(x api.Item) int { return len(x.Vars) }},
		{long("deny d t x where ", "a=1", " and ", ";", 4), 1200, func(x api.Item) int { return len(x.Conds) }},
		{long("query q=project(t on ", "a", ",", ");", 2), 2400, func(x api.Item) int { return len(x.Expr.Names) }},
		{long("query q=group(t on ", "a", ",", " with count as n);", 2), 2400, func(x api.Item) int { return len(x.Expr.Names) }},
	} {
		p := parse(t, test.text)
		if len(p.Items) != 1 || test.count(p.Items[0]) < test.least {
			t.Errorf("%s: %d items", show(test.text), len(p.Items))
		}
	}
	wide := "t"
	for range 9 {
		wide = "join(" + wide + "," + wide + ")"
	}
	x := parse(t, "query q="+wide+";").Items[0].Expr
	count := 0
	var visit func(x api.Expr)
	visit = func(x api.Expr) {
		count++
		for _, kid := range x.Kids {
			visit(kid)
		}
	}
	visit(x)
	if count != 1023 {
		t.Errorf("%d expressions", count)
	}
}
