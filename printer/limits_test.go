package printer_test

import (
	"slices"
	"strings"
	"testing"

	"cleanse/api"
	"cleanse/lexer"
	"cleanse/parser"
	"cleanse/printer"
)

// nested returns the expressions of so many levels: each operation in the place of each kid of itself, with a table at the last level.
func nested(levels int, inner api.Expr) []api.Expr {
	var out []api.Expr
	for i, operation := range operations(relation("t"), relation("t")) {
		for kid := range operation.Kids {
			x := inner
			for range levels - 1 {
				pair := [2]api.Expr{relation("t"), relation("t")}
				pair[kid] = x
				x = operations(pair[0], pair[1])[i]
			}
			out = append(out, x)
		}
	}
	return out
}

// P9.1: 200 items have a text, 201 are an ErrLimit, whatever their kinds.
func TestNumberOfItems(t *testing.T) {
	for _, s := range samples() {
		tokens, _, _ := lexer.Lex(s.text)
		if len(s.text) >= 100 || len(tokens) > 24 {
			continue
		}
		for _, n := range []int{1, 2, 199, 200} {
			checkText(t, program(slices.Repeat([]api.Item{s.item}, n)...), strings.Repeat(s.text+"\n", n))
		}
		for _, n := range []int{201, 202} {
			checkError(t, program(slices.Repeat([]api.Item{s.item}, n)...), api.ErrLimit)
		}
	}
}

// P9.1: expressions of 12 levels have a text, those of 13 are an ErrLimit, by each operation and in each of its kids.
func TestLevels(t *testing.T) {
	for levels := 1; levels <= 12; levels++ {
		for _, x := range nested(levels, relation("t")) {
			checkText(t, program(query(x)), modelText(program(query(x))))
		}
	}
	for levels := 13; levels <= 20; levels++ {
		for _, x := range nested(levels, relation("t")) {
			checkError(t, program(query(x)), api.ErrLimit)
			checkError(t, program(origin("s"), query(x)), api.ErrLimit)
			checkError(t, program(query(x), query(relation("t"))), api.ErrLimit)
		}
	}
}

// P9.1: each query has levels of its own, and each kid has one level more than its operation, whatever is beside it.
func TestLevelsOfSeveral(t *testing.T) {
	deep, deeper := nested(11, relation("t")), nested(12, relation("t"))
	for i := range deep {
		for _, outer := range operations(deep[i], deep[i]) {
			p := program(query(outer), query(outer))
			checkText(t, p, modelText(p))
		}
		for _, outer := range operations(relation("t"), deeper[i]) {
			if len(outer.Kids) == 2 {
				checkError(t, program(query(outer)), api.ErrLimit)
			}
		}
		for _, outer := range operations(deeper[i], relation("t")) {
			checkError(t, program(query(outer)), api.ErrLimit)
		}
	}
}

// wide returns a unique with so many attributes: it has 6 tokens, and 2 for each attribute.
func wide(n int) api.Item {
	return api.Item{Kind: api.ItemUnique, Name: "u", Table: "t", Names: slices.Repeat([]string{"a"}, n)}
}

// P9.1: 5000 tokens have a text, 5001 are an ErrLimit.
func TestNumberOfTokens(t *testing.T) {
	for tokens := 4990; tokens <= 5010; tokens++ {
		p := program(wide((tokens - 6) / 2))
		if tokens%2 == 1 {
			// A source has 5 tokens.
			p = program(origin("s"), wide((tokens-11)/2))
		}
		want := modelText(p)
		if got, _, _ := lexer.Lex(want); tokens <= 5000 && len(got) != tokens || len(want) > 10000 {
			t.Fatalf("%d tokens and %d bytes, not %d tokens", len(got), len(want), tokens)
		}
		if tokens <= 5000 {
			checkText(t, p, want)
		} else {
			checkError(t, p, api.ErrLimit)
		}
	}
}

// P9.1: every token of an item counts, a sign of a constant and one for days too.
func TestTokensOfItems(t *testing.T) {
	for _, s := range samples() {
		tokens, _, _ := lexer.Lex(s.text)
		rest := 5000 - len(tokens)
		for _, n := range []int{rest - 1, rest, rest + 1, rest + 2} {
			p := program(s.item, wide((n-6)/2))
			if n%2 == 1 {
				p = program(s.item, origin("s"), wide((n-11)/2))
			}
			if n <= rest {
				checkText(t, p, modelText(p))
			} else {
				checkError(t, p, api.ErrLimit)
			}
		}
	}
}

// long returns a table with a text of so many bytes. Its last default value has those that the other ones, which are all the same, leave.
func long(n int) api.Program {
	rest := n - len(`table t(a text = "") key k;`+"\n")
	x := columns()
	for {
		x.Columns = append(x.Columns, api.Column{Name: "a", Kind: api.KindText, Default: text("")})
		if rest <= 200 {
			x.Columns[len(x.Columns)-1].Default.Text = strings.Repeat("x", rest)
			return program(x)
		}
		// A line feed has two bytes.
		x.Columns[len(x.Columns)-1].Default.Text = strings.Repeat("\n", 50)
		rest -= 100 + len(`, a text = ""`)
	}
}

// P9.1: a text of 20000 bytes is returned, one of 20001 bytes is an ErrLimit. The ends of lines count.
func TestNumberOfBytes(t *testing.T) {
	for n := 19950; n <= 20050; n++ {
		p := long(n)
		want := modelText(p)
		if len(want) != n {
			t.Fatalf("%d bytes, not %d", len(want), n)
		}
		if n <= 20000 {
			checkText(t, p, want)
		} else {
			checkError(t, p, api.ErrLimit)
		}
	}
	for _, s := range samples() {
		rest := 20000 - len(s.text) - 1
		before := long(rest)
		p := program(before.Items[0], s.item)
		checkText(t, p, modelText(p))
		p = program(s.item, before.Items[0])
		checkText(t, p, modelText(p))
		before = long(rest + 1)
		checkError(t, program(before.Items[0], s.item), api.ErrLimit)
		checkError(t, program(s.item, before.Items[0]), api.ErrLimit)
	}
}

// P9.1: texts that are much too long, and too many tokens, are an ErrLimit as well.
func TestFarBeyondLimits(t *testing.T) {
	for _, n := range []int{20001, 30000, 40000, 100000} {
		checkError(t, long(n), api.ErrLimit)
	}
	checkError(t, program(wide(100000)), api.ErrLimit)
	checkError(t, program(slices.Repeat([]api.Item{origin("s")}, 100000)...), api.ErrLimit)
	text := strings.Repeat("\n", 200)
	x := columns(slices.Repeat([]api.Column{{Name: longName, Kind: api.KindText, Default: api.Value{Kind: api.KindText, Text: text}}}, 1200)...)
	checkError(t, program(x), api.ErrLimit)
}

// beyond returns trees that are printable, and beyond one of the limits or all of them.
func beyond() map[string]api.Program {
	deep := query(nested(13, relation("t"))[0])
	out := map[string]api.Program{
		"items":  program(slices.Repeat([]api.Item{origin("s")}, 201)...),
		"levels": program(deep),
		"bytes":  long(20001),
		"tokens": program(origin("s"), wide(2495)),
	}
	out["all"] = program(slices.Concat([]api.Item{deep, long(25000).Items[0], wide(3000)}, out["items"].Items)...)
	return out
}

// P9.1: what is not printable comes before all limits, wherever it stands: before or behind what is too much.
func TestRefusedBeyondLimits(t *testing.T) {
	wrong := []api.Item{{}, {Kind: 11}, origin(""), {Kind: api.ItemOrigin, Name: "s", N: -1}, {Kind: api.ItemOrigin, Name: "s", M: 1}, deny(), columns(), query(api.Expr{}), query(relation("1")), columns(api.Column{Name: "a", Kind: 5}), deny(cond(attr("null"), attr("a"), 0))}
	for _, operation := range operations(relation(""), relation("t")) {
		wrong = append(wrong, query(operation))
	}
	for limit, p := range beyond() {
		checkError(t, p, api.ErrLimit)
		for _, x := range wrong {
			for _, i := range []int{0, len(p.Items) / 2, len(p.Items)} {
				q := program(slices.Insert(slices.Clone(p.Items), i, x)...)
				if _, err := printer.Print(q); err != api.ErrArg {
					t.Fatalf("%s, and the item %d is %s: error %d", limit, i, show(x), err)
				}
			}
		}
	}
}

// P9.1: what is not printable comes before the limit of levels also within what is too deep, at each level and beside it.
func TestRefusedAtLevels(t *testing.T) {
	for _, inner := range []api.Expr{{}, relation(""), relation("1"), {Kind: 9}, {Kind: api.ExprProject}, {Kind: api.ExprTable, Table: "t", As: "x"}} {
		for levels := 1; levels <= 20; levels++ {
			for _, x := range nested(levels, inner) {
				checkError(t, program(query(x)), api.ErrArg)
			}
		}
		for _, deep := range nested(13, relation("t")) {
			for _, both := range []int{api.ExprJoin, api.ExprUnion, api.ExprMinus} {
				checkError(t, program(query(api.Expr{Kind: both, Kids: []api.Expr{deep, inner}})), api.ErrArg)
				checkError(t, program(query(api.Expr{Kind: both, Kids: []api.Expr{inner, deep}})), api.ErrArg)
			}
			for _, outer := range operations(deep, deep) {
				outer.Table = "t"
				checkError(t, program(query(outer)), api.ErrArg)
			}
		}
	}
	for _, x := range nested(13, relation("t")) {
		for part := &x; len(part.Kids) > 0; part = &part.Kids[0] {
			part.Table = "t"
			checkError(t, program(query(x)), api.ErrArg)
			part.Table = ""
		}
		checkError(t, program(query(x)), api.ErrLimit)
	}
}

// chain returns an expression of so many levels by a binary operation, in one of its kids, with a table or something else at the last one.
func chain(kind, kid, levels int, inner api.Expr) api.Expr {
	x := inner
	for range levels - 1 {
		pair := kids("t", "t")
		pair[kid] = x
		x = api.Expr{Kind: kind, Kids: pair}
	}
	return x
}

// checkBig checks the error for a tree that is too big to be shown.
func checkBig(t *testing.T, p api.Program, want api.Errno) {
	t.Helper()
	if got, err := printer.Print(p); err != want || got != "" {
		t.Errorf("error %d, not %d", err, want)
	}
}

// P1, P9.1: however many levels there are, what is not printable is found at the last one, beside it, and behind all of them.
func TestManyLevels(t *testing.T) {
	for _, levels := range []int{1 << 16, 1<<17 - 1, 1 << 17, 1<<17 + 1, 1<<17 + 2} {
		for kid := range 2 {
			good := query(chain(api.ExprJoin, kid, levels, relation("t")))
			checkBig(t, program(good), api.ErrLimit)
			checkBig(t, program(good, origin("s")), api.ErrLimit)
			checkBig(t, program(good, api.Item{}), api.ErrArg)
			checkBig(t, program(good, query(relation("1"))), api.ErrArg)
			checkBig(t, program(query(chain(api.ExprUnion, kid, levels, api.Expr{}))), api.ErrArg)
			checkBig(t, program(query(chain(api.ExprMinus, kid, levels, relation("1")))), api.ErrArg)
			good.Expr.Kids[1-kid].Table = ""
			checkBig(t, program(good), api.ErrArg)
		}
	}
}

// P1: a tree of a million levels, each of which is an operation with one kid, has an error.
func TestMillionLevels(t *testing.T) {
	for inner, want := range map[string]api.Errno{"t": api.ErrLimit, "": api.ErrArg} {
		x := relation(inner)
		for range 1000000 - 1 {
			x = api.Expr{Kind: api.ExprProject, Kids: []api.Expr{x}}
		}
		checkBig(t, program(query(x)), want)
	}
}

// P1: kids may be the same ones in many places, so that a tree that takes little memory has more parts than can be counted.
func TestSharedKids(t *testing.T) {
	for inner, want := range map[string]api.Errno{"t": api.ErrLimit, "1": api.ErrArg} {
		x := relation(inner)
		for range 200 {
			x = api.Expr{Kind: api.ExprUnion, Kids: []api.Expr{x, x}}
		}
		checkBig(t, program(query(x)), want)
		checkBig(t, program(query(x), query(x), origin("s")), want)
		checkBig(t, program(query(x), query(x), origin("")), api.ErrArg)
	}
	// A project has the first one of the kids of a join.
	pair := kids("t", "")
	first := query(chain(api.ExprJoin, 0, 13, api.Expr{Kind: api.ExprProject, Kids: pair[:1]}))
	checkBig(t, program(first), api.ErrLimit)
	checkBig(t, program(first, query(chain(api.ExprJoin, 0, 13, api.Expr{Kind: api.ExprJoin, Kids: pair}))), api.ErrArg)
}

// P1: a tree that contains itself has levels without an end. What is not printable in it is found as well.
func TestCircles(t *testing.T) {
	for i := range operations(relation("t"), relation("t")) {
		list := kids("t", "t")
		x := operations(relation("t"), relation("t"))[i]
		x.Kids = list[:len(x.Kids)]
		for kid := range x.Kids {
			list[kid] = x
			checkBig(t, program(query(x)), api.ErrLimit)
			list[kid].Table = "t"
			checkBig(t, program(query(x)), api.ErrArg)
			list[kid].Table = ""
		}
	}
	pair := kids("t", "t")
	pair[0] = chain(api.ExprMinus, 1, 1000, api.Expr{Kind: api.ExprJoin, Kids: pair})
	checkBig(t, program(query(pair[0])), api.ErrLimit)
	pair[1].Table = ""
	checkBig(t, program(query(pair[0])), api.ErrArg)
}

// P9.3: a text within the limits may have a tree whose text is beyond that of bytes, as blanks are written that need not be; it is never beyond the others.
func TestLimitsOfParsedTexts(t *testing.T) {
	dense := func(n int) string { return "unique u on t(" + strings.Repeat("abcdefgh,", n-1) + "abcdefgh);" }
	p, err, _ := parser.Parse(dense(2200))
	if err != api.OK || len(dense(2200)) > 20000 {
		t.Fatalf("%d bytes: error %d", len(dense(2200)), err)
	}
	checkError(t, p, api.ErrLimit)
	checkText(t, parse(t, dense(1990)), modelText(parse(t, dense(1990))))
	most := strings.Repeat("source s trust 5;", 200)
	checkText(t, parse(t, most), strings.Repeat("source s trust 5;\n", 200))
	tokens := "unique u on t(" + strings.Repeat("a,", 2496) + "a);"
	checkText(t, parse(t, tokens), strings.ReplaceAll(tokens, ",", ", ")+"\n")
}
