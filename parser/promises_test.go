package parser_test

import (
	"fmt"
	"math/rand/v2"
	"reflect"
	"slices"
	"strings"
	"testing"

	"cleanse/api"
	"cleanse/lexer"
	"cleanse/parser"
)

// P8.1, P8.2, P8.5: the tree of a text is that of which it was written, with the offsets at which it was written.
func TestWritten(t *testing.T) {
	r := random()
	for range 6000 {
		p := someProgram(r, r.IntN(6))
		source := write(r, p)
		checkTree(t, source, p)
	}
}

// P8.1: writing finds each kind of item and of expression, so that the other tests of written texts do.
func TestSomePrograms(t *testing.T) {
	r := random()
	counts := map[string]int{}
	var visit func(x api.Expr)
	visit = func(x api.Expr) {
		counts[fmt.Sprint("expression ", x.Kind)]++
		for _, kid := range x.Kids {
			visit(kid)
		}
	}
	for _, item := range someProgram(r, 3000).Items {
		counts[fmt.Sprint("item ", item.Kind)]++
		if item.Kind == api.ItemQuery {
			visit(item.Expr)
		}
	}
	if len(counts) != 18 {
		t.Errorf("only %v", counts)
	}
	for kind, count := range counts {
		if count < 20 {
			t.Errorf("%s: %d times", kind, count)
		}
	}
}

// P8.2: gaps and comments between the tokens of an item, before and behind them, change offsets alone.
func TestGapsInSamples(t *testing.T) {
	for _, s := range samples() {
		tokens := tokensOf(s.text)
		for _, gap := range []string{" ", "\t", "\n", " \n\t ", "#\n", " # ; \"7x (\n", "#a\n#b\n", "\n# source s trust 5;\n\n"} {
			checkItems(t, gap+strings.Join(tokens, gap)+gap, s.item)
			checkItems(t, s.text+gap+"# "+s.text, s.item)
			for i := range tokens {
				checkItems(t, strings.Join(tokens[:i], " ")+gap+strings.Join(tokens[i:], " "), s.item)
			}
		}
		dense := ""
		for _, token := range tokens {
			if dense != "" && isPart(dense[len(dense)-1]) && isPart(token[0]) {
				dense += "\t"
			}
			dense += token
		}
		checkItems(t, dense, s.item)
	}
}

// P8.2: texts that are written of one tree with different gaps have trees that differ in offsets alone.
func TestGapsInWritten(t *testing.T) {
	r := random()
	for range 3000 {
		p := someProgram(r, 1+r.IntN(4))
		source, other := write(r, p), write(r, p)
		if a, b := without(parse(t, source)), without(parse(t, other)); !isEqual(a, b) {
			t.Fatalf("%s and %s:\n%+v\n%+v", show(source), show(other), a, b)
		}
	}
}

// P8.2: gaps move errors, and change nothing else of them.
func TestGapsAtErrors(t *testing.T) {
	r := random()
	m := newModel()
	for range 3000 {
		tokens := wander(r, m, 1+r.IntN(20), 0.1)
		source := strings.Join(tokens, " ")
		_, err, at := parser.Parse(source)
		if err != api.ErrSyntax {
			continue
		}
		for _, gap := range []string{"\n", " # x\n", "  "} {
			before := strings.Join(tokensOf(source[:at]), gap)
			checkError(t, before+gap+source[at:], api.ErrSyntax, len(before+gap))
		}
	}
}

// checkBoth checks that two programs with a line feed between them have the items of both.
func checkBoth(t *testing.T, a, b string) {
	t.Helper()
	first, second := parse(t, a), shifted(parse(t, b), len(a)+1)
	checkTree(t, a+"\n"+b, program(slices.Concat(first.Items, second.Items)...))
}

// P8.3: two programs with a line feed between them have the items of both.
func TestConcatenations(t *testing.T) {
	r := random()
	list := []string{"", " ", "#", "# x", "source s trust 5;", "match m on t at 1 { }", "match m on t at 1 { }# ;", "query q = t; # x", "\nkeep t.a by most;\n"}
	for _, s := range samples() {
		list = append(list, s.text)
	}
	for range 30 {
		p := someProgram(r, r.IntN(4))
		list = append(list, write(r, p))
	}
	for _, a := range list {
		for _, b := range list {
			checkBoth(t, a, b)
		}
	}
	checkBoth(t, strings.Repeat("source s trust 5;", 200), "# x")
	checkBoth(t, "# x", strings.Repeat("source s trust 5;", 200))
	checkBoth(t, "query q = "+nested("project( on)", 12, "t")+";", "query q = "+nested("join( ,u)", 12, "t")+";")
}

// P8.3: two programs together are held to the limits.
func TestConcatenationsAtLimits(t *testing.T) {
	many := func(n int) string { return strings.Repeat("keep t.a by most;", n) }
	for n := range 201 {
		checkBoth(t, many(n), many(200-n))
		if n > 0 {
			checkError(t, many(n)+"\n"+many(201-n), api.ErrLimit, 17*200+1)
		}
	}
	long := "unique u on t(a" + strings.Repeat(",a", 1246) + ");"
	checkBoth(t, long, long)
	checkError(t, long+"\n"+long+"x", api.ErrLimit, 2*len(long)+1)
	checkError(t, many(100)+strings.Repeat(" ", 10000)+"\n"+strings.Repeat(" ", 10000), api.ErrLimit, -1)
}

// P8.4: what comes before the token of an ErrSyntax is a program or ends too early, and tokens behind it do not matter.
func TestTextsBeforeErrors(t *testing.T) {
	r := random()
	m := newModel()
	behind := []string{"", " ", "# x", " :", " ; ; ;", " source s trust 5;", " query q = " + nested("project( on)", 14, "t"), strings.Repeat(" x", 400), " \"a\" 5 { }", strings.Repeat(" source s trust 5;", 201)}
	counts := map[api.Errno]int{}
	for range 6000 {
		source := strings.Join(wander(r, m, 1+r.IntN(30), 0.1), pick(r, " ", "\n", " # x\n"))
		_, err, at := parser.Parse(source)
		if err != api.ErrSyntax {
			continue
		}
		p, before, offset := parser.Parse(source[:at])
		counts[before]++
		if before != api.OK && (before != api.ErrEnd || offset != at || len(p.Items) > 0) {
			t.Fatalf("%s: error %d at %d, but before it error %d at %d", show(source), err, at, before, offset)
		}
		tokens, _, _ := lexer.Lex(source[at:])
		end := len(source)
		if len(tokens) > 1 {
			end = at + tokens[1].At
		}
		for _, rest := range append(behind, strings.Join(wander(r, m, 10, 0.5), " ")) {
			checkError(t, source[:end]+"\n"+rest, api.ErrSyntax, at)
		}
	}
	if counts[api.OK] < 100 || counts[api.ErrEnd] < 1000 {
		t.Errorf("before errors there were %v", counts)
	}
}

// P8.5: items stand at their key words and expressions at their names, in increasing order.
func TestOffsets(t *testing.T) {
	r := random()
	for range 3000 {
		p := someProgram(r, 1+r.IntN(5))
		source := write(r, p)
		last := -1
		check := func(at int, word string) {
			t.Helper()
			if at <= last || !strings.HasPrefix(source[at:], word) {
				t.Fatalf("%s: %q at %d, behind %d", show(source), word, at, last)
			}
			last = at
		}
		var visit func(x api.Expr)
		visit = func(x api.Expr) {
			check(x.At, [...]string{"", x.Table, "select", "project", "join", "union", "minus", "rename", "group"}[x.Kind])
			for _, kid := range x.Kids {
				visit(kid)
			}
		}
		for _, item := range parse(t, source).Items {
			check(item.At, [...]string{"", "table", "source", "block", "match", "keep", "unique", "depend", "include", "deny", "query"}[item.Kind])
			if item.Kind == api.ItemQuery {
				visit(item.Expr)
			} else if item.Expr.At != 0 {
				t.Fatalf("%s: an item without an expression has one at %d", show(source), item.Expr.At)
			}
		}
	}
}

// P8.6: the text before an item is a program with the items before it.
func TestTextsBeforeItems(t *testing.T) {
	r := random()
	for range 3000 {
		p := someProgram(r, 1+r.IntN(5))
		source := write(r, p)
		whole := parse(t, source)
		for i, item := range whole.Items {
			checkTree(t, source[:item.At], program(whole.Items[:i]...))
		}
	}
	full := strings.Repeat("keep t.a by most; ", 200)
	for i, item := range parse(t, full).Items {
		checkTree(t, full[:item.At], program(parse(t, full).Items[:i]...))
	}
}

// P8.7: an expression stands unchanged, except for its offsets, as each kid of each operation, up to the level 12.
func TestExpressionsAsKids(t *testing.T) {
	r := random()
	for range 1500 {
		p := program(query(someExpr(r, 1+r.IntN(6))))
		source := write(r, p)
		tokens, _, _ := lexer.Lex(source)
		checkAsKid(t, source[tokens[3].At:tokens[len(tokens)-1].At])
	}
	for _, operation := range operations() {
		checkAsKid(t, nested(operation, 11, "t"))
		checkAsKid(t, nested(operation, 2, "select"))
	}
}

// checkAsKid checks that an expression stands unchanged as each kid of each operation.
func checkAsKid(t *testing.T, inner string) {
	t.Helper()
	alone := parse(t, "query q="+inner+";").Items[0].Expr
	for _, operation := range operations() {
		before, after, _ := strings.Cut(operation, " ")
		x := parse(t, "query q="+before+inner+" "+after+";").Items[0].Expr
		kid := x.Kids[strings.Count(before, "u,")]
		shift(&kid, -len(before))
		if !isEqual(program(query(kid)), program(query(alone))) {
			t.Fatalf("%s in %s:\n%+v, not\n%+v", show(inner), operation, kid, alone)
		}
	}
}

// results returns what Parse returns for many texts.
func results() string {
	r := random()
	m := newModel()
	var out strings.Builder
	for range 150 {
		p := someProgram(r, r.IntN(5))
		for _, source := range []string{write(r, p), strings.Join(wander(r, m, 20, 0.05), " "), strings.Repeat("keep t.a by most;", r.IntN(220)), strings.Repeat(";", r.IntN(6000))} {
			tree, err, at := parser.Parse(source)
			fmt.Fprintf(&out, "%+v %d %d\n", tree, err, at)
		}
	}
	return out.String()
}

// P3: calls with equal arguments have equal results, whatever was called in between.
func TestIndependence(t *testing.T) {
	first := results()
	for range 3 {
		if results() != first {
			t.Fatal("the results change")
		}
	}
}

// span is a part of the memory.
type span struct{ from, to uintptr }

// memory returns the parts of the memory that the slices of a tree have, with what is reserved behind their elements, and those that its strings have.
func memory(p api.Program) (slices, strings []span) {
	walk("", reflect.ValueOf(p), func(_ string, v reflect.Value) {
		switch v.Kind() {
		case reflect.Slice:
			if v.Cap() > 0 {
				slices = append(slices, span{v.Pointer(), v.Pointer() + uintptr(v.Cap())*v.Type().Elem().Size()})
			}
		case reflect.String:
			strings = append(strings, spanOf(v.String()))
		}
	})
	return slices, strings
}

// spanOf returns the part of the memory that a string has.
func spanOf(s string) span {
	from := reflect.ValueOf(s).Pointer()
	return span{from, from + uintptr(len(s))}
}

// overlap reports whether two parts of the memory have a byte in common.
func overlap(a, b span) bool { return max(a.from, b.from) < min(a.to, b.to) }

// someTexts calls a function with programs, which have all kinds of items.
func someTexts(r *rand.Rand, n int, check func(source string)) {
	for range n {
		p := someProgram(r, 1+r.IntN(6))
		check(write(r, p))
	}
	all := ""
	for _, s := range samples() {
		check(s.text)
		all += s.text
	}
	check(all)
}

// LANGUAGE.md, rule 7: the slices of the trees of two calls, and those within one tree, share no memory.
func TestResultsShareNoMemory(t *testing.T) {
	someTexts(random(), 200, func(source string) {
		first, _ := memory(parse(t, source))
		second, _ := memory(parse(t, source))
		list := append(first, second...)
		slices.SortFunc(list, func(a, b span) int { return int(a.from) - int(b.from) })
		for i := range len(list) - 1 {
			if overlap(list[i], list[i+1]) {
				t.Fatalf("%s: two slices share memory", show(source))
			}
		}
	})
}

// LANGUAGE.md, rule 7: changing and extending the tree of one call changes no other one.
func TestResultsAreNew(t *testing.T) {
	someTexts(random(), 300, func(source string) {
		first, second, third := parse(t, source), parse(t, source), parse(t, source)
		if !isEqual(first, second) {
			t.Fatalf("%s: two calls have different trees", show(source))
		}
		walk("", reflect.ValueOf(&first).Elem(), func(_ string, v reflect.Value) {
			switch v.Kind() {
			case reflect.String:
				v.SetString("changed")
			case reflect.Int:
				v.SetInt(-1)
			case reflect.Bool:
				v.SetBool(!v.Bool())
			case reflect.Slice:
				extended := v.Slice(0, v.Cap())
				for i := v.Len(); i < extended.Len(); i++ {
					extended.Index(i).SetZero()
				}
			}
		})
		if !isEqual(second, third) {
			t.Fatalf("%s: the tree of another call changes", show(source))
		}
		checkTree(t, source, second)
	})
}

// LANGUAGE.md, rule 7: a text stays as it is and is not kept: nothing in a tree has a part of its memory.
func TestTextsAreNotKept(t *testing.T) {
	someTexts(random(), 300, func(source string) {
		given := strings.Clone(source)
		_, list := memory(parse(t, given))
		if given != source {
			t.Fatalf("%s becomes %s", show(source), show(given))
		}
		for _, s := range list {
			if overlap(s, spanOf(given)) {
				t.Fatalf("%s: a string has memory of the text", show(source))
			}
		}
	})
}
