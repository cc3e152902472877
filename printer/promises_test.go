package printer_test

import (
	"fmt"
	"math/rand/v2"
	"reflect"
	"regexp"
	"slices"
	"strings"
	"testing"

	"cleanse/api"
	"cleanse/parser"
	"cleanse/printer"
)

// P9.1, P9.2: a random tree has the text of the model, and parsing this text yields the tree.
func TestRandomTrees(t *testing.T) {
	r := maker{random()}
	for range 10000 {
		p := r.program(r.IntN(6))
		checkText(t, p, modelText(p))
	}
}

// P9.1: random trees have each kind of item and of expression, so that the other tests of random trees find them.
func TestKindsOfRandomTrees(t *testing.T) {
	r := maker{random()}
	counts := map[string]int{}
	var visit func(x api.Expr)
	visit = func(x api.Expr) {
		counts[fmt.Sprint("expression ", x.Kind)]++
		for _, kid := range x.Kids {
			visit(kid)
		}
	}
	for _, x := range r.program(3000).Items {
		counts[fmt.Sprint("item ", x.Kind)]++
		if x.Kind == api.ItemQuery {
			visit(x.Expr)
		}
	}
	if len(counts) != 18 {
		t.Errorf("only %v", counts)
	}
	for kind, count := range counts {
		if count < 20 {
			t.Errorf("%s: %d times", kind, count)
		}
	}
}

// P9.3: a text that can be parsed has a tree that can be printed; what is printed is the same for all texts of a tree, and printing the tree of this again changes nothing.
func TestCanonical(t *testing.T) {
	r := maker{random()}
	check := func(p api.Program) {
		t.Helper()
		source := sloppy(r.Rand, p)
		once := printed(t, parse(t, source))
		if once != modelText(p) {
			t.Fatalf("%s:\n%s, not\n%s", show(source), show(once), show(modelText(p)))
		}
		if twice := printed(t, parse(t, once)); twice != once {
			t.Fatalf("%s becomes %s", show(once), show(twice))
		}
	}
	for range 4000 {
		check(r.program(r.IntN(4)))
	}
	for _, s := range samples() {
		for range 30 {
			check(program(s.item))
		}
	}
}

// P9.3: what is written in several ways is printed in one.
func TestWaysToWrite(t *testing.T) {
	for want, sources := range map[string][]string{
		"table t(a text) key k;\n":                            {"table t(a text=null)key k;", "table\tt ( a\ntext ) key k ;# x", "# x\ntable t(a text = null) key k;\n\n"},
		"table t(a text = 0) key k;\n":                        {"table t(a text=-0)key k;", "table t(a text = 0000000000) key k;", "table t(a text = - 000) key k;"},
		"source s trust 0;\n":                                 {"source s trust 0;", "source s trust 0000000000;"},
		"match m on t at 5 {\n}\n":                            {"match m on t at 5{}", "match m on t at 05 {\n\n}"},
		"match m on t at 5 {\n  a edit least 1 gives 2;\n}\n": {"match m on t at 5{a edit least 1/1 gives 2;}", "match m on t at 5{a edit least 1/01 gives 2 takes 00;}", "match m on t at 5 { a edit least 1 gives 2 takes 0 ; }"},
		"deny d t x where a = -1;\n":                          {"deny d t x where a=-1+0;", "deny d t x where a=- 01-0;", "deny d t x where a = -1 - 000;"},
		"query q = project(select(t where a = -1 + 2) on);\n": {"query q=project(select(t where a=-1+2)on);", "query q = project ( select ( t where a = - 1 + 2 ) on ) ;"},
	} {
		for _, source := range append(sources, want) {
			if got := printed(t, parse(t, source)); got != want {
				t.Errorf("%s: %s, not %s", show(source), show(got), show(want))
			}
		}
	}
}

// P9.3: whatever can be parsed can be printed: texts in which tokens were exchanged.
func TestChangedTexts(t *testing.T) {
	r := maker{random()}
	count := 0
	for range 30000 {
		tokens := tokenPattern.FindAllString(modelText(r.program(1)), -1)
		others := tokenPattern.FindAllString(modelText(r.program(1)), -1)
		for range 1 + r.IntN(2) {
			tokens[r.IntN(len(tokens))] = pick(r.Rand, pick(r.Rand, others...), pick(r.Rand, tokens...), pick(r.Rand, keyWords...), "0", "1")
		}
		p, err, _ := parser.Parse(strings.Join(tokens, " "))
		if err != api.OK {
			continue
		}
		count++
		once := printed(t, p)
		if twice := printed(t, parse(t, once)); twice != once {
			t.Fatalf("%s becomes %s", show(once), show(twice))
		}
	}
	if count < 3000 {
		t.Errorf("only %d texts were programs", count)
	}
}

// P9.4: a tree with another value at a place has another text, if it has one, unless the place is that of an offset.
func TestOtherTreesHaveOtherTexts(t *testing.T) {
	changed := 0
	eachDamage(func(s sample, x api.Item) {
		got, err := printer.Print(program(x))
		isSame := isEqual(without(program(x)), without(program(s.item)))
		if err == api.OK && isSame != (got == s.text+"\n") {
			t.Fatalf("%s and %s: %s", show(s.item), show(x), got)
		}
		if err == api.OK && !isSame {
			changed++
		}
	})
	if changed < 1000 {
		t.Errorf("only %d other trees", changed)
	}
}

// P9.4: of many small trees those with the same text are the same.
func TestEqualTextsHaveEqualTrees(t *testing.T) {
	r := maker{random()}
	trees := map[string]api.Program{}
	met := 0
	for range 60000 {
		p := r.program(1)
		for i, x := range p.Items {
			for _, at := range placesOf(&x) {
				if at.isName() && at.value.String() != "" {
					at.value.SetString(pick(r.Rand, "a", "b", "on"))
				} else if at.field() == "At" {
					at.value.SetInt(int64(r.IntN(3)))
				} else if at.value.Kind() == reflect.Int && at.value.Int() > 10 {
					at.value.SetInt(int64(r.IntN(3)))
				}
			}
			p.Items[i] = x
		}
		got, err := printer.Print(p)
		if err != api.OK {
			continue
		}
		if other, isKnown := trees[got]; isKnown {
			met++
			if !isEqual(without(p), without(other)) {
				t.Fatalf("%s is the text of %s and of %s", got, show(p), show(other))
			}
		}
		trees[got] = p
	}
	if met < 5000 || len(trees) < 5000 {
		t.Errorf("%d texts, of which %d were met again", len(trees), met)
	}
}

// P9.5: the text of a tree is that of its first items and that of the others.
func TestTextsOfParts(t *testing.T) {
	r := maker{random()}
	check := func(p api.Program) {
		t.Helper()
		whole := printed(t, p)
		for i := range len(p.Items) + 1 {
			first, second := printed(t, program(p.Items[:i]...)), printed(t, program(p.Items[i:]...))
			if first+second != whole {
				t.Fatalf("%s and %s, not %s", show(first), show(second), show(whole))
			}
		}
	}
	for range 1500 {
		check(r.program(r.IntN(6)))
	}
	check(program(slices.Repeat([]api.Item{origin("s")}, 200)...))
	check(program(long(10000).Items[0], long(10000).Items[0]))
	for _, a := range samples() {
		for _, b := range samples() {
			check(program(a.item, b.item))
		}
	}
}

// checkGaps checks that a text ends with a line feed, and has no tabs, no empty lines, and no two blanks within a line, apart from what stands in its texts.
func checkGaps(t *testing.T, source string) {
	t.Helper()
	bare := regexp.MustCompile(`"(\\.|[^"\\\n])*"`).ReplaceAllString(source, `""`)
	if bare == "" {
		return
	}
	if !strings.HasSuffix(bare, "\n") || strings.HasPrefix(bare, "\n") || strings.Contains(bare, "\n\n") || strings.ContainsAny(bare, "\t\r\f\v") {
		t.Fatalf("%s has other gaps", show(source))
	}
	for line := range strings.Lines(bare) {
		indented := strings.TrimPrefix(line, "  ")
		if strings.HasPrefix(indented, " ") || strings.Contains(indented, "  ") || strings.HasSuffix(line, " \n") {
			t.Fatalf("%s has blanks in the line %q", show(source), line)
		}
	}
}

// P9.6: printed texts have no other gaps.
func TestGaps(t *testing.T) {
	r := maker{random()}
	for range 5000 {
		checkGaps(t, printed(t, r.program(r.IntN(6))))
	}
	for _, s := range samples() {
		checkGaps(t, printed(t, program(s.item)))
		checkGaps(t, printed(t, program(s.item, s.item)))
	}
	for v := range constants() {
		checkGaps(t, printed(t, program(deny(cond(constant(v), constant(v), 1)))))
	}
	checkGaps(t, printed(t, long(20000)))
}

// results returns what Print returns for many trees.
func results() string {
	r := maker{rand.New(rand.NewPCG(3, 3))}
	var out strings.Builder
	for range 200 {
		for _, p := range []api.Program{r.program(r.IntN(5)), program(api.Item{Kind: r.IntN(12)}), program(slices.Repeat([]api.Item{r.item()}, 190+r.IntN(20))...)} {
			source, err := printer.Print(p)
			fmt.Fprintf(&out, "%q %d\n", source, err)
		}
	}
	return out.String()
}

// P3: calls with equal arguments have equal results, whatever was called in between.
func TestIndependence(t *testing.T) {
	first := results()
	for range 3 {
		if results() != first {
			t.Fatal("the results change")
		}
	}
	for _, s := range samples() {
		again := copied(s.item)
		if printed(t, program(s.item)) != printed(t, program(again)) {
			t.Errorf("%s: copies have other texts", s.text)
		}
	}
}

// P3: an empty slice is as good as none.
func TestEmptySlices(t *testing.T) {
	for _, s := range samples() {
		x := copied(s.item)
		for _, at := range placesOf(&x) {
			if at.value.Kind() == reflect.Slice && at.value.Len() == 0 {
				at.value.Set(reflect.MakeSlice(at.value.Type(), 0, 2))
				checkItem(t, x, s.text)
			}
		}
	}
}

// spare returns a copy of an item in which each slice has an element behind its last one, and these elements.
func spare(x api.Item) (api.Item, []reflect.Value) {
	x = copied(x)
	var behind []reflect.Value
	for _, at := range placesOf(&x) {
		if at.value.Kind() != reflect.Slice {
			continue
		}
		n := at.value.Len()
		list := reflect.MakeSlice(at.value.Type(), n+1, n+1)
		reflect.Copy(list, at.value)
		at.value.Set(list.Slice(0, n))
		behind = append(behind, list.Index(n))
	}
	return x, behind
}

// LANGUAGE.md, rule 7: a tree is not changed, whether it can be printed or not, and neither is what lies behind its slices.
func TestTreesAreNotChanged(t *testing.T) {
	r := maker{random()}
	check := func(x api.Item) {
		t.Helper()
		given, behind := spare(x)
		items := []api.Item{given, {}}
		before := fmt.Sprintf("%#v", items)
		printer.Print(api.Program{Items: items[:1]})
		if after := fmt.Sprintf("%#v", items); after != before {
			t.Fatalf("%s becomes %s", show(before), show(after))
		}
		for _, v := range behind {
			if !v.IsZero() {
				t.Fatalf("%s: behind a slice there is %v", show(x), v)
			}
		}
	}
	for range 2000 {
		check(r.item())
	}
	for _, s := range samples() {
		check(s.item)
	}
	eachDamage(func(_ sample, x api.Item) { check(x) })
}

// span is a part of the memory.
type span struct{ from, to uintptr }

// spanOf returns the part of the memory that a string has.
func spanOf(s string) span {
	from := reflect.ValueOf(s).Pointer()
	return span{from, from + uintptr(len(s))}
}

// overlap reports whether two parts of the memory have a byte in common.
func overlap(a, b span) bool { return max(a.from, b.from) < min(a.to, b.to) }

// LANGUAGE.md, rule 7: a text is new memory: it has none of a string of the tree, and none of the text of another call.
func TestTextsAreNew(t *testing.T) {
	r := maker{random()}
	for range 1000 {
		x := r.item()
		first, second := printed(t, program(x)), printed(t, program(x))
		if first != second || overlap(spanOf(first), spanOf(second)) {
			t.Fatalf("%s: two calls return the same memory", show(x))
		}
		for _, at := range placesOf(&x) {
			if at.value.Kind() == reflect.String && overlap(spanOf(first), spanOf(at.value.String())) {
				t.Fatalf("%s: the text has memory of the tree", show(x))
			}
		}
	}
}

// LANGUAGE.md, rule 7: what happens to a tree after the call does not change the text.
func TestTreesAreNotKept(t *testing.T) {
	r := maker{random()}
	for range 1000 {
		x := copied(r.item())
		got, want := printed(t, program(x)), modelText(program(x))
		for _, at := range placesOf(&x) {
			at.value.SetZero()
		}
		checkError(t, program(x), api.ErrArg)
		if got != want {
			t.Fatalf("%s became %s", show(want), show(got))
		}
	}
}
