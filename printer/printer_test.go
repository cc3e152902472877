package printer_test

import (
	"fmt"
	"reflect"
	"regexp"
	"slices"
	"strings"
	"testing"

	"cleanse/api"
	"cleanse/lexer"
	"cleanse/parser"
	"cleanse/printer"
	"cleanse/value"
)

var null = api.Value{}

func text(s string) api.Value { return api.Value{Kind: api.KindText, Text: s} }

func number(n int) api.Value { return api.Value{Kind: api.KindNumber, N: n} }

func day(n int) api.Value { return api.Value{Kind: api.KindDay, N: n} }

func flag(n int) api.Value { return api.Value{Kind: api.KindFlag, N: n} }

// constant, attr and of return sides of conditions.
func constant(v api.Value) api.Operand { return api.Operand{Const: true, Value: v} }

func attr(name string) api.Operand { return api.Operand{Attr: name} }

func of(variable, name string) api.Operand { return api.Operand{Var: variable, Attr: name} }

// cond returns the condition that two sides are equal.
func cond(left, right api.Operand, add int) api.Cond {
	return api.Cond{Left: left, Op: api.OpEqual, Right: right, Add: add}
}

// relation returns the expression of a table.
func relation(name string) api.Expr { return api.Expr{Kind: api.ExprTable, Table: name} }

// kids returns expressions of tables.
func kids(names ...string) []api.Expr {
	var out []api.Expr
	for _, name := range names {
		out = append(out, relation(name))
	}
	return out
}

// program returns a tree of items.
func program(items ...api.Item) api.Program { return api.Program{Items: items} }

// origin returns a source.
func origin(name string) api.Item { return api.Item{Kind: api.ItemOrigin, Name: name, N: 5} }

// deny returns a deny with some conditions.
func deny(conds ...api.Cond) api.Item {
	return api.Item{Kind: api.ItemDeny, Name: "d", Vars: []api.Var{{Name: "x", Table: "t"}}, Conds: conds}
}

// query returns a query with the name q.
func query(x api.Expr) api.Item { return api.Item{Kind: api.ItemQuery, Name: "q", Expr: x} }

// columns returns a table with some columns.
func columns(list ...api.Column) api.Item {
	return api.Item{Kind: api.ItemTable, Name: "t", Columns: list, Names: []string{"k"}}
}

// match returns a match with some terms.
func match(terms ...api.Term) api.Item {
	return api.Item{Kind: api.ItemMatch, Name: "m", Table: "t", N: 5, Terms: terms}
}

// equal reports whether two values are equal. Slices without elements are.
func equal(a, b reflect.Value) bool {
	switch a.Kind() {
	case reflect.Struct:
		for i := range a.NumField() {
			if !equal(a.Field(i), b.Field(i)) {
				return false
			}
		}
		return true
	case reflect.Slice:
		for i := range min(a.Len(), b.Len()) {
			if !equal(a.Index(i), b.Index(i)) {
				return false
			}
		}
		return a.Len() == b.Len()
	}
	return a.Interface() == b.Interface()
}

// isEqual reports whether two trees are equal.
func isEqual(a, b api.Program) bool { return equal(reflect.ValueOf(a), reflect.ValueOf(b)) }

// place is a value within another one, with the names of the fields that lead to it.
type place struct {
	path  string
	value reflect.Value
}

// field returns the name of the innermost field.
func (p place) field() string { return p.path[strings.LastIndex(p.path, ".")+1:] }

// isIn reports whether a field is one of those that lead to the place.
func (p place) isIn(field string) bool { return strings.Contains(p.path+".", "."+field+".") }

// places returns all strings, numbers, truth values and slices within a value.
func places(path string, v reflect.Value) []place {
	var out []place
	switch v.Kind() {
	case reflect.Struct:
		for i := range v.NumField() {
			out = append(out, places(path+"."+v.Type().Field(i).Name, v.Field(i))...)
		}
		return out
	case reflect.Slice:
		out = append(out, place{path, v})
		for i := range v.Len() {
			out = append(out, places(path, v.Index(i))...)
		}
		return out
	}
	return append(out, place{path, v})
}

// placesOf returns the places of an item, in which it can be changed.
func placesOf(x *api.Item) []place { return places("", reflect.ValueOf(x).Elem()) }

// copied returns a copy of an item that shares no slices with it.
func copied(x api.Item) api.Item {
	out := x
	copySlices(reflect.ValueOf(&out).Elem())
	return out
}

func copySlices(v reflect.Value) {
	switch v.Kind() {
	case reflect.Struct:
		for i := range v.NumField() {
			copySlices(v.Field(i))
		}
	case reflect.Slice:
		if v.IsNil() {
			return
		}
		out := reflect.MakeSlice(v.Type(), v.Len(), v.Len())
		reflect.Copy(out, v)
		v.Set(out)
		for i := range v.Len() {
			copySlices(v.Index(i))
		}
	}
}

// without returns a copy of a tree in which all offsets are 0.
func without(p api.Program) api.Program {
	var out api.Program
	for _, x := range p.Items {
		x = copied(x)
		for _, at := range placesOf(&x) {
			if at.field() == "At" {
				at.value.SetInt(0)
			}
		}
		out.Items = append(out.Items, x)
	}
	return out
}

// show returns the beginning of a tree, or of a text as a literal.
func show(x any) string {
	if s, isText := x.(string); isText {
		return fmt.Sprintf("%.400q", s)
	}
	return fmt.Sprintf("%.600s", fmt.Sprintf("%+v", x))
}

// printed returns the text of a tree that has one.
func printed(t *testing.T, p api.Program) string {
	t.Helper()
	got, err := printer.Print(p)
	if err != api.OK {
		t.Fatalf("%s: error %d", show(p), err)
	}
	return got
}

// parse returns the tree of a text that has one.
func parse(t *testing.T, source string) api.Program {
	t.Helper()
	p, err, at := parser.Parse(source)
	if err != api.OK {
		t.Fatalf("%s: error %d at %d", show(source), err, at)
	}
	return p
}

// checkText checks that a tree has a text, and that this one has the tree.
func checkText(t *testing.T, p api.Program, want string) {
	t.Helper()
	if got := printed(t, p); got != want {
		t.Fatalf("%s:\n%s, not\n%s", show(p), show(got), show(want))
	}
	if got := parse(t, want); !isEqual(without(got), without(p)) {
		t.Fatalf("%s:\n%s, not\n%s", show(want), show(got), show(p))
	}
}

// checkItem checks that an item has a text, without the end of its line.
func checkItem(t *testing.T, x api.Item, want string) {
	t.Helper()
	checkText(t, program(x), want+"\n")
}

// checkError checks that a tree has an error, and no text.
func checkError(t *testing.T, p api.Program, want api.Errno) {
	t.Helper()
	if got, err := printer.Print(p); err != want || got != "" {
		t.Fatalf("%s: %s and error %d, not %d", show(p), show(got), err, want)
	}
}

// checkRefused checks that an item is not printable, alone and among others.
func checkRefused(t *testing.T, x api.Item) {
	t.Helper()
	checkError(t, program(x), api.ErrArg)
	checkError(t, program(origin("a"), x), api.ErrArg)
	checkError(t, program(x, origin("a")), api.ErrArg)
}

// sample is an item with its text, without the end of the line. No name stands twice in it, no number and no text.
type sample struct {
	item api.Item
	text string
}

// samples returns every kind of item, with each option and each alternative of the grammar, and each list with the least number of elements and with more.
func samples() []sample {
	return slices.Concat(tables(), origins(), matches(), constraints(), denies(), queries())
}

func tables() []sample {
	column := func(name string, kind int, standard api.Value) api.Column {
		return api.Column{Name: name, Kind: kind, Default: standard}
	}
	item := func(keys []string, columns ...api.Column) api.Item {
		return api.Item{Kind: api.ItemTable, Name: "t1", Columns: columns, Names: keys}
	}
	one, more := []string{"k1"}, []string{"k1", "k2", "k3"}
	return []sample{
		{item(one, column("a", api.KindText, null)), `table t1(a text) key k1;`},
		{item(one, column("a", api.KindFlag, null), column("b", api.KindDay, null), column("c", api.KindNumber, null)), `table t1(a flag, b day, c number) key k1;`},
		{item(more, column("a", api.KindText, text("x")), column("b", api.KindNumber, number(51)), column("c", api.KindDay, day(52)), column("d", api.KindFlag, flag(1)), column("e", api.KindFlag, flag(0))), `table t1(a text = "x", b number = 51, c day = @52, d flag = true, e flag = false) key k1, k2, k3;`},
		{item(more, column("a", api.KindText, number(-51)), column("b", api.KindFlag, text(""))), `table t1(a text = -51, b flag = "") key k1, k2, k3;`},
	}
}

func origins() []sample {
	block := func(by, n, m int) api.Item {
		return api.Item{Kind: api.ItemBlock, Name: "b1", Table: "t1", Attr: "a", By: by, N: n, M: m}
	}
	keep := func(by int) api.Item {
		return api.Item{Kind: api.ItemKeep, Table: "t1", Attr: "a", By: by}
	}
	return []sample{
		{api.Item{Kind: api.ItemOrigin, Name: "s1", N: 51}, `source s1 trust 51;`},
		{block(api.ByExact, 0, 0), `block b1 on t1.a by exact;`},
		{block(api.ByToken, 0, 0), `block b1 on t1.a by token;`},
		{block(api.ByPrefix, 51, 0), `block b1 on t1.a by prefix 51;`},
		{block(api.BySketch, 51, 52), `block b1 on t1.a by sketch 51 52;`},
		{keep(api.KeepLatest), `keep t1.a by latest;`},
		{keep(api.KeepMost), `keep t1.a by most;`},
		{keep(api.KeepTrusted), `keep t1.a by trusted;`},
		{keep(api.KeepLongest), `keep t1.a by longest;`},
		{keep(api.KeepLeast), `keep t1.a by least;`},
		{keep(api.KeepGreatest), `keep t1.a by greatest;`},
	}
}

func matches() []sample {
	item := func(terms ...api.Term) api.Item {
		return api.Item{Kind: api.ItemMatch, Name: "m1", Table: "t1", N: 51, Terms: terms}
	}
	return []sample{
		{item(), "match m1 on t1 at 51 {\n}"},
		{item(api.Term{Attr: "a", Measure: api.MeasureEqual, Least: api.Ratio{Num: 52, Den: 1}, Gives: 53}), "match m1 on t1 at 51 {\n  a equal least 52 gives 53;\n}"},
		{item(api.Term{Attr: "a", Measure: api.MeasureNear, Tolerance: 52, Least: api.Ratio{Num: 53, Den: 54}, Gives: 55, Takes: 56}), "match m1 on t1 at 51 {\n  a near 52 least 53/54 gives 55 takes 56;\n}"},
		{item(
			api.Term{Attr: "a", Measure: api.MeasureEdit, Least: api.Ratio{Num: 52, Den: 53}, Gives: 54},
			api.Term{Attr: "b", Measure: api.MeasureJaccard, Least: api.Ratio{Num: 55, Den: 1}, Gives: 56, Takes: 57},
			api.Term{Attr: "c", Measure: api.MeasureJaro, Least: api.Ratio{Num: 58, Den: 0}, Gives: 59},
		), "match m1 on t1 at 51 {\n  a edit least 52/53 gives 54;\n  b jaccard least 55 gives 56 takes 57;\n  c jaro least 58/0 gives 59;\n}"},
	}
}

func constraints() []sample {
	depend := func(names []string, fixed ...api.Named) api.Item {
		return api.Item{Kind: api.ItemDepend, Name: "d1", Table: "t1", Names: names, Attr: "z", Fixed: fixed}
	}
	unique := func(names ...string) api.Item {
		return api.Item{Kind: api.ItemUnique, Name: "u1", Table: "t1", Names: names}
	}
	one, more := []string{"a"}, []string{"a", "b", "c"}
	return []sample{
		{unique("a"), `unique u1 on t1(a);`},
		{unique("a", "b", "c"), `unique u1 on t1(a, b, c);`},
		{depend(one), `depend d1 on t1(a) to z;`},
		{depend(more, api.Named{Name: "f", Value: number(51)}), `depend d1 on t1(a, b, c) to z where f = 51;`},
		{depend(more, api.Named{Name: "f"}, api.Named{Name: "g", Value: text("x")}, api.Named{Name: "h", Value: number(-51)}, api.Named{Name: "i", Value: day(52)}, api.Named{Name: "j", Value: flag(1)}, api.Named{Name: "k", Value: flag(0)}), `depend d1 on t1(a, b, c) to z where f = null, g = "x", h = -51, i = @52, j = true, k = false;`},
		{api.Item{Kind: api.ItemInclude, Name: "i1", Table: "t1", Attr: "a", Other: "t2", OtherAttr: "b"}, `include i1 t1.a in t2.b;`},
	}
}

func denies() []sample {
	item := func(vars []api.Var, conds ...api.Cond) api.Item {
		return api.Item{Kind: api.ItemDeny, Name: "d1", Vars: vars, Conds: conds}
	}
	one := []api.Var{{Name: "x", Table: "t1"}}
	more := []api.Var{{Name: "x", Table: "t1"}, {Name: "y", Table: "t2"}, {Name: "z", Table: "t3"}}
	return []sample{
		{item(one, cond(attr("a"), constant(number(51)), 0)), `deny d1 t1 x where a = 51;`},
		{item(one, cond(constant(number(-51)), constant(number(-52)), -53)), `deny d1 t1 x where -51 = -52 - 53;`},
		{item(more,
			api.Cond{Left: of("v1", "a"), Op: api.OpAtMost, Right: of("v2", "b"), Add: -51},
			api.Cond{Left: attr("c"), Op: api.OpUnlike, Right: constant(text("s"))},
			api.Cond{Left: constant(flag(1)), Op: api.OpEqual, Right: constant(null), Add: 52},
			api.Cond{Left: constant(day(53)), Op: api.OpLess, Right: of("v3", "d")},
		), `deny d1 t1 x, t2 y, t3 z where v1.a <= v2.b - 51 and c != "s" and true = null + 52 and @53 < v3.d;`},
	}
}

// queries returns every kind of query, with the name q1.
func queries() []sample {
	one := []api.Cond{cond(attr("a"), constant(number(-51)), 52)}
	more := []api.Cond{{Left: attr("a"), Op: api.OpLess, Right: attr("b")}, {Left: of("v1", "c"), Op: api.OpUnlike, Right: constant(flag(0)), Add: -51}}
	var out []sample
	for _, x := range []struct {
		expr api.Expr
		text string
	}{
		{relation("t1"), `t1`},
		{api.Expr{Kind: api.ExprSelect, Kids: kids("t1"), Conds: one}, `select(t1 where a = -51 + 52)`},
		{api.Expr{Kind: api.ExprSelect, Kids: kids("t1"), Conds: more}, `select(t1 where a < b and v1.c != false - 51)`},
		{api.Expr{Kind: api.ExprProject, Kids: kids("t1")}, `project(t1 on)`},
		{api.Expr{Kind: api.ExprProject, Kids: kids("t1"), Names: []string{"a"}}, `project(t1 on a)`},
		{api.Expr{Kind: api.ExprProject, Kids: kids("t1"), Names: []string{"a", "b", "c"}}, `project(t1 on a, b, c)`},
		{api.Expr{Kind: api.ExprJoin, Kids: kids("t1", "t2")}, `join(t1, t2)`},
		{api.Expr{Kind: api.ExprUnion, Kids: kids("t1", "t2")}, `union(t1, t2)`},
		{api.Expr{Kind: api.ExprMinus, Kids: kids("t1", "t2")}, `minus(t1, t2)`},
		{api.Expr{Kind: api.ExprRename, Kids: kids("t1"), Attr: "a", As: "b"}, `rename(t1, a as b)`},
		{api.Expr{Kind: api.ExprGroup, Kids: kids("t1"), Agg: api.AggCount, As: "n"}, `group(t1 on with count as n)`},
		{api.Expr{Kind: api.ExprGroup, Kids: kids("t1"), Names: []string{"a"}, Agg: api.AggSum, Attr: "z", As: "n"}, `group(t1 on a with sum z as n)`},
		{api.Expr{Kind: api.ExprGroup, Kids: kids("t1"), Names: []string{"a", "b", "c"}, Agg: api.AggLeast, Attr: "z", As: "n"}, `group(t1 on a, b, c with least z as n)`},
		{api.Expr{Kind: api.ExprGroup, Kids: kids("t1"), Agg: api.AggGreatest, Attr: "z", As: "n"}, `group(t1 on with greatest z as n)`},
		{api.Expr{Kind: api.ExprJoin, Kids: []api.Expr{{Kind: api.ExprUnion, Kids: kids("t1", "t2")}, {Kind: api.ExprMinus, Kids: []api.Expr{relation("t3"), {Kind: api.ExprProject, Kids: kids("t4")}}}}}, `join(union(t1, t2), minus(t3, project(t4 on)))`},
	} {
		out = append(out, sample{api.Item{Kind: api.ItemQuery, Name: "q1", Expr: x.expr}, "query q1 = " + x.text + ";"})
	}
	return out
}

// operations returns each operation with some kids.
func operations(first, second api.Expr) []api.Expr {
	one, two := []api.Expr{first}, []api.Expr{first, second}
	return []api.Expr{
		{Kind: api.ExprSelect, Kids: one, Conds: []api.Cond{cond(attr("a"), attr("b"), 0)}},
		{Kind: api.ExprProject, Kids: one},
		{Kind: api.ExprProject, Kids: one, Names: []string{"a"}},
		{Kind: api.ExprJoin, Kids: two},
		{Kind: api.ExprUnion, Kids: two},
		{Kind: api.ExprMinus, Kids: two},
		{Kind: api.ExprRename, Kids: one, Attr: "a", As: "b"},
		{Kind: api.ExprGroup, Kids: one, Agg: api.AggCount, As: "n"},
		{Kind: api.ExprGroup, Kids: one, Names: []string{"a"}, Agg: api.AggSum, Attr: "b", As: "n"},
	}
}

// keyWords are the names that stand in quotes in the grammar.
var keyWords = strings.Fields("table key source trust block on by exact token prefix sketch match at least gives takes keep latest most trusted longest greatest unique depend to where include in deny and query text number day flag equal edit jaccard jaro near true false null select project join union minus rename as group with count sum")

// longName is a name of 24 bytes.
const longName = "Name_with_24_bytes_____9"

// replaced returns a text with another token in the place of one that stands in it once.
func replaced(t *testing.T, source, token, other string) string {
	t.Helper()
	found := regexp.MustCompile(`\b`+token+`\b`).FindAllStringIndex(source, -1)
	if len(found) != 1 {
		t.Fatalf("%q stands %d times in %s", token, len(found), source)
	}
	return source[:found[0][0]] + other + source[found[0][1]:]
}

// P9.1, P9.2: the examples of the chapter.
func TestExamples(t *testing.T) {
	for source, want := range map[string]string{
		"source  s trust 005 ;":                                      "source s trust 5;\n",
		"query q=project ( select(t where a=- 1+2) on );":            "query q = project(select(t where a = -1 + 2) on);\n",
		"match m on t at 5 { a near 3 least 2/4 gives 1 takes 0 ; }": "match m on t at 5 {\n  a near 3 least 2/4 gives 1;\n}\n",
	} {
		checkText(t, parse(t, source), want)
	}
}

// P9.1: a tree without items has the empty text.
func TestNoItems(t *testing.T) {
	checkText(t, api.Program{}, "")
	checkText(t, api.Program{Items: []api.Item{}}, "")
}

// P9.1, P9.2: every sample has its text, alone, twice, and with all that come before it.
func TestSamples(t *testing.T) {
	var all api.Program
	want := ""
	for _, s := range samples() {
		checkItem(t, s.item, s.text)
		checkText(t, program(s.item, s.item), s.text+"\n"+s.text+"\n")
		all.Items = append(all.Items, s.item)
		want += s.text + "\n"
		checkText(t, all, want)
	}
}

// isName reports whether a place is that of a name, which may be missing.
func (p place) isName() bool {
	return p.value.Kind() == reflect.String && p.field() != "Text"
}

// mayNotBe returns the names that may not stand in the place of a name of an item, which is one of the samples.
func mayNotBe(x api.Item, old string) []string {
	for _, conds := range [][]api.Cond{x.Conds, x.Expr.Conds} {
		for _, c := range conds {
			for _, o := range []api.Operand{c.Left, c.Right} {
				if o.Var == old || o.Var == "" && o.Attr == old {
					return []string{"true", "false", "null"}
				}
			}
		}
	}
	if x.Expr.Kind == api.ExprGroup && len(x.Expr.Names) > 0 && x.Expr.Names[0] == old {
		return []string{"with"}
	}
	return nil
}

// P9.1: wherever a name stands, it may be any name: of 1 and of 24 bytes, a key word, the name of an operation or of a value. Sides of conditions do not begin with those of values, and the attributes of a group not with "with".
func TestNames(t *testing.T) {
	for _, s := range samples() {
		x := copied(s.item)
		for _, at := range placesOf(&x) {
			if !at.isName() || at.value.String() == "" {
				continue
			}
			old := at.value.String()
			wrong := mayNotBe(s.item, old)
			for _, name := range slices.Concat(keyWords, []string{"A", "Z", "z", "x_", "x0", "TRUE", "With", "truer", "nul", longName}) {
				at.value.SetString(name)
				if slices.Contains(wrong, name) {
					checkRefused(t, x)
				} else {
					checkItem(t, x, replaced(t, s.text, old, name))
				}
			}
			at.value.SetString(old)
		}
	}
}

// mostNumber is the greatest number that a token can be.
const mostNumber = 9999999999

// P9.1: wherever a number stands, it may be any one of at most ten digits, and is written without leading zeros.
func TestNumbers(t *testing.T) {
	for _, s := range samples() {
		x := copied(s.item)
		for _, at := range placesOf(&x) {
			if at.value.Kind() != reflect.Int || at.value.Int() <= 50 {
				continue
			}
			old := at.value.Int()
			for _, n := range []int64{2, 9, 10, 1000000000, 1000000001, mostNumber - 1, mostNumber} {
				at.value.SetInt(n)
				checkItem(t, x, replaced(t, s.text, fmt.Sprint(old), fmt.Sprint(n)))
			}
			at.value.SetInt(0)
			if at.field() != "Takes" && at.field() != "Add" {
				checkItem(t, x, replaced(t, s.text, fmt.Sprint(old), "0"))
			}
			at.value.SetInt(1)
			if at.field() != "Den" {
				checkItem(t, x, replaced(t, s.text, fmt.Sprint(old), "1"))
			}
			at.value.SetInt(old)
		}
	}
}

// P9.1: what is optional is left out if it is null, 0, 1 or empty, and nothing else is.
func TestOptions(t *testing.T) {
	column := func(v api.Value) api.Item { return columns(api.Column{Name: "a", Kind: api.KindNumber, Default: v}) }
	checkItem(t, column(null), "table t(a number) key k;")
	checkItem(t, column(number(0)), "table t(a number = 0) key k;")
	checkItem(t, column(flag(0)), "table t(a number = false) key k;")
	checkItem(t, column(day(0)), "table t(a number = @0) key k;")
	checkItem(t, column(text("")), `table t(a number = "") key k;`)

	term := func(num, den, gives, takes int) api.Item {
		return match(api.Term{Attr: "a", Measure: api.MeasureEdit, Least: api.Ratio{Num: num, Den: den}, Gives: gives, Takes: takes})
	}
	checkItem(t, term(1, 1, 1, 1), "match m on t at 5 {\n  a edit least 1 gives 1 takes 1;\n}")
	checkItem(t, term(0, 0, 0, 0), "match m on t at 5 {\n  a edit least 0/0 gives 0;\n}")
	checkItem(t, term(2, 2, 3, 0), "match m on t at 5 {\n  a edit least 2/2 gives 3;\n}")
	checkItem(t, term(0, 1, 0, mostNumber), "match m on t at 5 {\n  a edit least 0 gives 0 takes 9999999999;\n}")
	checkItem(t, match(api.Term{Attr: "a", Measure: api.MeasureNear, Least: api.Ratio{Den: 1}}), "match m on t at 5 {\n  a near 0 least 0 gives 0;\n}")

	checkItem(t, deny(cond(attr("a"), attr("b"), 0)), "deny d t x where a = b;")
	checkItem(t, deny(cond(attr("a"), attr("b"), 1)), "deny d t x where a = b + 1;")
	checkItem(t, deny(cond(attr("a"), attr("b"), -1)), "deny d t x where a = b - 1;")
	checkItem(t, api.Item{Kind: api.ItemBlock, Name: "b", Table: "t", Attr: "a", By: api.ByPrefix}, "block b on t.a by prefix 0;")
	checkItem(t, api.Item{Kind: api.ItemBlock, Name: "b", Table: "t", Attr: "a", By: api.BySketch}, "block b on t.a by sketch 0 0;")
	checkItem(t, api.Item{Kind: api.ItemDepend, Name: "d", Table: "t", Names: []string{"a"}, Attr: "b", Fixed: []api.Named{}}, "depend d on t(a) to b;")
	checkItem(t, api.Item{Kind: api.ItemDepend, Name: "d", Table: "t", Names: []string{"a"}, Attr: "b", Fixed: []api.Named{{Name: "c"}}}, "depend d on t(a) to b where c = null;")
}

// constants returns constants at the limits, with their texts.
func constants() map[api.Value]string {
	return map[api.Value]string{
		null:                            "null",
		flag(0):                         "false",
		flag(1):                         "true",
		number(0):                       "0",
		number(7):                       "7",
		number(-7):                      "-7",
		number(1000000001):              "1000000001",
		number(mostNumber):              "9999999999",
		number(-mostNumber):             "-9999999999",
		day(0):                          "@0",
		day(7):                          "@7",
		day(73049):                      "@73049",
		day(mostNumber):                 "@9999999999",
		text(""):                        `""`,
		text("x"):                       `"x"`,
		text("null"):                    `"null"`,
		text(`a"b`):                     `"a\"b"`,
		text(`\`):                       `"\\"`,
		text(`\n`):                      `"\\n"`,
		text("\n"):                      `"\n"`,
		text("\"\\\n"):                  `"\"\\\n"`,
		text("  a  ; ( ."):              `"  a  ; ( ."`,
		text("\t\r\x00\xff"):            "\"\t\r\x00\xff\"",
		text("a # b"):                   `"a # b"`,
		text(strings.Repeat("x", 200)):  `"` + strings.Repeat("x", 200) + `"`,
		text(strings.Repeat("\n", 200)): `"` + strings.Repeat(`\n`, 200) + `"`,
		text(strings.Repeat(`"`, 200)):  `"` + strings.Repeat(`\"`, 200) + `"`,
		text(strings.Repeat(`\`, 200)):  `"` + strings.Repeat(`\\`, 200) + `"`,
	}
}

// P9.1: constants are written as layer 2 writes them, also beyond the limits of values, wherever they stand.
func TestConstants(t *testing.T) {
	for v, want := range constants() {
		if value.Valid(v) && value.Text(v) != want {
			t.Errorf("layer 2 writes %s, not %s", show(value.Text(v)), show(want))
		}
		if v != null {
			checkItem(t, columns(api.Column{Name: "a", Kind: api.KindDay, Default: v}, api.Column{Name: "b", Kind: api.KindDay, Default: v}), "table t(a day = "+want+", b day = "+want+") key k;")
		}
		checkItem(t, api.Item{Kind: api.ItemDepend, Name: "d", Table: "t", Names: []string{"a"}, Attr: "b", Fixed: []api.Named{{Name: "c", Value: v}, {Name: "e", Value: v}}}, "depend d on t(a) to b where c = "+want+", e = "+want+";")
		for op, word := range []string{"=", "!=", "<", "<="} {
			both := api.Cond{Left: constant(v), Op: op + 1, Right: constant(v), Add: 4}
			want := "where " + want + " " + word + " " + want + " + 4"
			checkItem(t, deny(both, both), "deny d t x "+want+" and"+want[5:]+";")
			checkItem(t, query(api.Expr{Kind: api.ExprSelect, Kids: kids("t"), Conds: []api.Cond{both, both}}), "query q = select(t "+want+" and"+want[5:]+");")
		}
	}
}

// P9.1: each comparison is written with each kind of side on both sides, and with each kind of number at its end.
func TestConditions(t *testing.T) {
	sides := map[api.Operand]string{attr("a"): "a", of("v", "a"): "v.a", of("v", "true"): "v.true", of("v", "null"): "v.null", of("where", "and"): "where.and", constant(number(-3)): "-3", constant(day(3)): "@3", constant(text("-")): `"-"`, constant(null): "null"}
	adds := map[int]string{0: "", 1: " + 1", -1: " - 1", mostNumber: " + 9999999999", -mostNumber: " - 9999999999"}
	for left, leftText := range sides {
		for right, rightText := range sides {
			for add, addText := range adds {
				for op, word := range []string{"=", "!=", "<", "<="} {
					c := api.Cond{Left: left, Op: op + 1, Right: right, Add: add}
					want := leftText + " " + word + " " + rightText + addText
					checkItem(t, deny(c), "deny d t x where "+want+";")
					checkItem(t, query(api.Expr{Kind: api.ExprSelect, Kids: kids("t"), Conds: []api.Cond{c}}), "query q = select(t where "+want+");")
				}
			}
		}
	}
}

// P9.1: each operation stands as each kid of each operation.
func TestOperationsInOperations(t *testing.T) {
	for _, inner := range operations(relation("t"), relation("u")) {
		want := printed(t, program(query(inner)))
		want = strings.TrimSuffix(strings.TrimPrefix(want, "query q = "), ";\n")
		for _, outer := range operations(inner, relation("w")) {
			before := [...]string{api.ExprSelect: "select(", api.ExprProject: "project(", api.ExprJoin: "join(", api.ExprUnion: "union(", api.ExprMinus: "minus(", api.ExprRename: "rename(", api.ExprGroup: "group("}[outer.Kind]
			got := printed(t, program(query(outer)))
			if !strings.HasPrefix(got, "query q = "+before+want) {
				t.Errorf("%s does not begin with %s", got, before+want)
			}
		}
		for _, outer := range operations(relation("w"), inner) {
			if got := printed(t, program(query(outer))); len(outer.Kids) == 2 && !strings.Contains(got, "(w, "+want+")") {
				t.Errorf("%s does not have %s as second kid", got, want)
			}
		}
	}
}

// P9.1: offsets do not matter, neither those of items nor those of expressions, nor those of expressions in items that have none.
func TestOffsets(t *testing.T) {
	for _, s := range samples() {
		x := copied(s.item)
		count := 0
		for _, at := range placesOf(&x) {
			if at.field() != "At" {
				continue
			}
			count++
			for _, n := range []int64{1, -1, 7, -1 << 63, 1<<63 - 1} {
				at.value.SetInt(n)
				checkItem(t, x, s.text)
			}
		}
		if count < 2 {
			t.Errorf("%s: %d offsets", s.text, count)
		}
	}
}

// split returns the tokens of a text as they are written there, with what stands before each one.
func split(t *testing.T, source string) (tokens, gaps []string) {
	t.Helper()
	lexed, err, _ := lexer.Lex(source)
	if err != api.OK {
		t.Fatalf("%s: error %d", show(source), err)
	}
	end := 0
	for _, token := range lexed {
		written := token.Text
		if token.Kind == api.TokText {
			written = value.Text(text(token.Text))
		}
		gaps = append(gaps, source[end:token.At])
		tokens = append(tokens, written)
		end = token.At + len(written)
	}
	return tokens, append(gaps, source[end:])
}

// P9.1, P9.6: between two tokens stands what the chapter says, by the tokens alone: no name in the samples is a key word.
func TestGapsBetweenTokens(t *testing.T) {
	for _, s := range samples() {
		tokens, gaps := split(t, printed(t, program(s.item, s.item)))
		isMatch := s.item.Kind == api.ItemMatch
		half := len(tokens) / 2
		for i, gap := range gaps {
			want := " "
			switch {
			case i == 0:
				want = ""
			case i == half || i == len(tokens):
				want = "\n"
			case isMatch && tokens[i] == "}":
				want = "\n"
			case isMatch && (tokens[i-1] == "{" || tokens[i-1] == ";"):
				want = "\n  "
			case strings.Contains("; , . ) ( /", tokens[i]) || strings.Contains("( . / @", tokens[i-1]):
				want = ""
			case tokens[i-1] == "-" && slices.Contains([]string{"=", "!=", "<", "<=", "where", "and"}, tokens[i-2]):
				want = ""
			}
			if gap != want {
				t.Errorf("%s: %q before the token %d, not %q", s.text, gap, i, want)
			}
		}
	}
}
