package parser_test

import (
	"fmt"
	"reflect"
	"slices"
	"strings"
	"testing"

	"cleanse/api"
	"cleanse/lexer"
	"cleanse/parser"
	"cleanse/value"
)

var null = api.Value{}

func text(s string) api.Value { return api.Value{Kind: api.KindText, Text: s} }

func number(n int) api.Value { return api.Value{Kind: api.KindNumber, N: n} }

func day(n int) api.Value { return api.Value{Kind: api.KindDay, N: n} }

func flag(n int) api.Value { return api.Value{Kind: api.KindFlag, N: n} }

// constant, attr and of return sides of conditions.
func constant(v api.Value) api.Operand { return api.Operand{Const: true, Value: v} }

func attr(name string) api.Operand { return api.Operand{Attr: name} }

func of(variable, name string) api.Operand { return api.Operand{Var: variable, Attr: name} }

// table returns the expression of a table.
func table(name string) api.Expr { return api.Expr{Kind: api.ExprTable, Table: name} }

// kids returns expressions of tables.
func kids(names ...string) []api.Expr {
	var out []api.Expr
	for _, name := range names {
		out = append(out, table(name))
	}
	return out
}

// program returns a tree of items.
func program(items ...api.Item) api.Program { return api.Program{Items: items} }

// query returns a query with the name q.
func query(x api.Expr) api.Item { return api.Item{Kind: api.ItemQuery, Name: "q", Expr: x} }

// show returns the beginning of a text as a literal.
func show(source string) string { return fmt.Sprintf("%.300q", source) }

// equal reports whether two values are equal. Slices without elements are.
func equal(a, b reflect.Value) bool {
	switch a.Kind() {
	case reflect.Struct:
		for i := range a.NumField() {
			if !equal(a.Field(i), b.Field(i)) {
				return false
			}
		}
		return true
	case reflect.Slice:
		for i := range min(a.Len(), b.Len()) {
			if !equal(a.Index(i), b.Index(i)) {
				return false
			}
		}
		return a.Len() == b.Len()
	}
	return a.Interface() == b.Interface()
}

// isEqual reports whether two trees are equal.
func isEqual(a, b api.Program) bool { return equal(reflect.ValueOf(a), reflect.ValueOf(b)) }

// walk calls a function for each string, number and slice of a value, with the name of the innermost field that has it.
func walk(field string, v reflect.Value, visit func(field string, v reflect.Value)) {
	switch v.Kind() {
	case reflect.Struct:
		for i := range v.NumField() {
			walk(v.Type().Field(i).Name, v.Field(i), visit)
		}
	case reflect.Slice:
		visit(field, v)
		for i := range v.Len() {
			walk(field, v.Index(i), visit)
		}
	default:
		visit(field, v)
	}
}

// isOffset reports whether a field is an offset.
func isOffset(field string) bool { return field == "At" }

// without sets all offsets in a tree to 0, and returns it.
func without(p api.Program) api.Program {
	walk("", reflect.ValueOf(&p).Elem(), func(field string, v reflect.Value) {
		if isOffset(field) {
			v.SetInt(0)
		}
	})
	return p
}

// shifted adds a number to all offsets of items and of the expressions of queries in a tree, and returns it.
func shifted(p api.Program, by int) api.Program {
	for i := range p.Items {
		p.Items[i].At += by
		if p.Items[i].Kind == api.ItemQuery {
			shift(&p.Items[i].Expr, by)
		}
	}
	return p
}

func shift(x *api.Expr, by int) {
	x.At += by
	for i := range x.Kids {
		shift(&x.Kids[i], by)
	}
}

// parse returns the tree of a text that has one.
func parse(t *testing.T, source string) api.Program {
	t.Helper()
	p, err, at := parser.Parse(source)
	if err != api.OK || at != 0 {
		t.Fatalf("%s: error %d at %d", show(source), err, at)
	}
	return p
}

// checkTree checks that a text has a tree, with its offsets.
func checkTree(t *testing.T, source string, want api.Program) {
	t.Helper()
	if got := parse(t, source); !isEqual(got, want) {
		t.Fatalf("%s:\n%+v, not\n%+v", show(source), got, want)
	}
}

// checkItems checks that a text has these items, apart from their offsets.
func checkItems(t *testing.T, source string, want ...api.Item) {
	t.Helper()
	if got := without(parse(t, source)); !isEqual(got, program(want...)) {
		t.Fatalf("%s:\n%+v, not\n%+v", show(source), got, want)
	}
}

// checkError checks that a text has an error at an offset, and no tree.
func checkError(t *testing.T, source string, want api.Errno, offset int) {
	t.Helper()
	if got, err, at := parser.Parse(source); err != want || at != offset || !isEqual(got, api.Program{}) {
		t.Fatalf("%s: %d items, error %d at %d, not %d at %d", show(source), len(got.Items), err, at, want, offset)
	}
}

// checkSyntax checks that a text has an ErrSyntax where a mark ^ stands, which is left out of the text.
func checkSyntax(t *testing.T, marked string) {
	t.Helper()
	before, after, isMarked := strings.Cut(marked, "^")
	if !isMarked {
		t.Fatalf("%s has no mark", show(marked))
	}
	checkError(t, before+after, api.ErrSyntax, len(before))
}

// checkModel checks that a text has the error and the items that the grammar gives it, and returns the error.
func checkModel(t *testing.T, m model, source string) api.Errno {
	t.Helper()
	want := m.read(source)
	if want.err != api.OK {
		checkError(t, source, want.err, want.at)
		return want.err
	}
	var items []int
	for _, item := range parse(t, source).Items {
		items = append(items, item.At)
	}
	if !slices.Equal(items, want.items) {
		t.Fatalf("%s: items at %d, not %d", show(source), items, want.items)
	}
	return api.OK
}

// sample is a text of one item, in which no name stands twice, and its item without offsets.
type sample struct {
	text string
	item api.Item
}

// samples returns every kind of item, with each option and each alternative of the grammar, and each list with the least number of elements and with more.
func samples() []sample {
	return slices.Concat(tables(), origins(), matches(), constraints(), denies(), queries())
}

func tables() []sample {
	column := func(name string, kind int, standard api.Value) api.Column {
		return api.Column{Name: name, Kind: kind, Default: standard}
	}
	item := func(keys []string, columns ...api.Column) api.Item {
		return api.Item{Kind: api.ItemTable, Name: "t1", Columns: columns, Names: keys}
	}
	one, more := []string{"k1"}, []string{"k1", "k2", "k3"}
	return []sample{
		{"table t1 (a text) key k1;", item(one, column("a", api.KindText, null))},
		{"table t1 (a flag, b day, c number, d text) key k1;", item(one, column("a", api.KindFlag, null), column("b", api.KindDay, null), column("c", api.KindNumber, null), column("d", api.KindText, null))},
		{"table t1 (a text = \"x\", b number = 5, c day = @7, d flag = true, e flag = false, f text = null) key k1, k2, k3;", item(more, column("a", api.KindText, text("x")), column("b", api.KindNumber, number(5)), column("c", api.KindDay, day(7)), column("d", api.KindFlag, flag(1)), column("e", api.KindFlag, flag(0)), column("f", api.KindText, null))},
		{"table t1 (a text = -5, b flag) key k1, k2, k3;", item(more, column("a", api.KindText, number(-5)), column("b", api.KindFlag, null))},
	}
}

func origins() []sample {
	out := []sample{
		{"source s1 trust 80;", api.Item{Kind: api.ItemOrigin, Name: "s1", N: 80}},
		{"block b1 on t1.a by exact;", api.Item{Kind: api.ItemBlock, Name: "b1", Table: "t1", Attr: "a", By: api.ByExact}},
		{"block b1 on t1.a by token;", api.Item{Kind: api.ItemBlock, Name: "b1", Table: "t1", Attr: "a", By: api.ByToken}},
		{"block b1 on t1.a by prefix 4;", api.Item{Kind: api.ItemBlock, Name: "b1", Table: "t1", Attr: "a", By: api.ByPrefix, N: 4}},
		{"block b1 on t1.a by sketch 12 3;", api.Item{Kind: api.ItemBlock, Name: "b1", Table: "t1", Attr: "a", By: api.BySketch, N: 12, M: 3}},
	}
	for _, keep := range []struct {
		word string
		by   int
	}{{"latest", api.KeepLatest}, {"most", api.KeepMost}, {"trusted", api.KeepTrusted}, {"longest", api.KeepLongest}, {"least", api.KeepLeast}, {"greatest", api.KeepGreatest}} {
		out = append(out, sample{"keep t1.a by " + keep.word + ";", api.Item{Kind: api.ItemKeep, Table: "t1", Attr: "a", By: keep.by}})
	}
	return out
}

func matches() []sample {
	item := func(terms ...api.Term) api.Item {
		return api.Item{Kind: api.ItemMatch, Name: "m1", Table: "t1", N: 7, Terms: terms}
	}
	one := api.Ratio{Num: 1, Den: 1}
	return []sample{
		{"match m1 on t1 at 7 { }", item()},
		{"match m1 on t1 at 7 { a equal least 1 gives 5; }", item(api.Term{Attr: "a", Measure: api.MeasureEqual, Least: one, Gives: 5})},
		{"match m1 on t1 at 7 { a near 30 least 2/4 gives 3 takes 2; }", item(api.Term{Attr: "a", Measure: api.MeasureNear, Tolerance: 30, Least: api.Ratio{Num: 2, Den: 4}, Gives: 3, Takes: 2})},
		{"match m1 on t1 at 7 { a equal least 1/3 gives 5; b edit least 1 gives 4 takes 3; c jaccard least 0/0 gives 0 takes 0; d jaro least 1/1 gives 1; e near 0 least 3 gives 2; }", item(
			api.Term{Attr: "a", Measure: api.MeasureEqual, Least: api.Ratio{Num: 1, Den: 3}, Gives: 5},
			api.Term{Attr: "b", Measure: api.MeasureEdit, Least: one, Gives: 4, Takes: 3},
			api.Term{Attr: "c", Measure: api.MeasureJaccard},
			api.Term{Attr: "d", Measure: api.MeasureJaro, Least: one, Gives: 1},
			api.Term{Attr: "e", Measure: api.MeasureNear, Least: api.Ratio{Num: 3, Den: 1}, Gives: 2})},
	}
}

func constraints() []sample {
	depend := func(names []string, fixed ...api.Named) api.Item {
		return api.Item{Kind: api.ItemDepend, Name: "d1", Table: "t1", Names: names, Attr: "z", Fixed: fixed}
	}
	one, more := []string{"a"}, []string{"a", "b", "c"}
	return []sample{
		{"unique u1 on t1(a);", api.Item{Kind: api.ItemUnique, Name: "u1", Table: "t1", Names: one}},
		{"unique u1 on t1(a, b, c);", api.Item{Kind: api.ItemUnique, Name: "u1", Table: "t1", Names: more}},
		{"depend d1 on t1(a) to z;", depend(one)},
		{"depend d1 on t1(a, b, c) to z where f = 1;", depend(more, api.Named{Name: "f", Value: number(1)})},
		{"depend d1 on t1(a, b, c) to z where f = null, g = \"x\", h = -1, i = @2, j = true, k = false;", depend(more, api.Named{Name: "f"}, api.Named{Name: "g", Value: text("x")}, api.Named{Name: "h", Value: number(-1)}, api.Named{Name: "i", Value: day(2)}, api.Named{Name: "j", Value: flag(1)}, api.Named{Name: "k", Value: flag(0)})},
		{"include i1 t1.a in t2.b;", api.Item{Kind: api.ItemInclude, Name: "i1", Table: "t1", Attr: "a", Other: "t2", OtherAttr: "b"}},
	}
}

func denies() []sample {
	item := func(vars []api.Var, conds ...api.Cond) api.Item {
		return api.Item{Kind: api.ItemDeny, Name: "d1", Vars: vars, Conds: conds}
	}
	one := []api.Var{{Name: "x", Table: "t1"}}
	more := []api.Var{{Name: "x", Table: "t1"}, {Name: "y", Table: "t2"}, {Name: "z", Table: "t3"}}
	return []sample{
		{"deny d1 t1 x where a = 1;", item(one, api.Cond{Left: attr("a"), Op: api.OpEqual, Right: constant(number(1))})},
		{"deny d1 t1 x, t2 y, t3 z where v1.a <= v2.b - 3 and c != \"s\" and true = null + 2 and @3 < v3.d;", item(more,
			api.Cond{Left: of("v1", "a"), Op: api.OpAtMost, Right: of("v2", "b"), Add: -3},
			api.Cond{Left: attr("c"), Op: api.OpUnlike, Right: constant(text("s"))},
			api.Cond{Left: constant(flag(1)), Op: api.OpEqual, Right: constant(null), Add: 2},
			api.Cond{Left: constant(day(3)), Op: api.OpLess, Right: of("v3", "d")})},
	}
}

// queries returns every kind of query, with the name q1.
func queries() []sample {
	one := []api.Cond{{Left: attr("a"), Op: api.OpEqual, Right: constant(number(-1)), Add: 2}}
	more := []api.Cond{{Left: attr("a"), Op: api.OpLess, Right: attr("b")}, {Left: of("v1", "c"), Op: api.OpUnlike, Right: constant(flag(0)), Add: -4}}
	var out []sample
	for _, x := range []struct {
		text string
		expr api.Expr
	}{
		{"t1", table("t1")},
		{"select(t1 where a = -1 + 2)", api.Expr{Kind: api.ExprSelect, Kids: kids("t1"), Conds: one}},
		{"select(t1 where a < b and v1.c != false - 4)", api.Expr{Kind: api.ExprSelect, Kids: kids("t1"), Conds: more}},
		{"project(t1 on)", api.Expr{Kind: api.ExprProject, Kids: kids("t1")}},
		{"project(t1 on a)", api.Expr{Kind: api.ExprProject, Kids: kids("t1"), Names: []string{"a"}}},
		{"project(t1 on a, b, c)", api.Expr{Kind: api.ExprProject, Kids: kids("t1"), Names: []string{"a", "b", "c"}}},
		{"join(t1, t2)", api.Expr{Kind: api.ExprJoin, Kids: kids("t1", "t2")}},
		{"union(t1, t2)", api.Expr{Kind: api.ExprUnion, Kids: kids("t1", "t2")}},
		{"minus(t1, t2)", api.Expr{Kind: api.ExprMinus, Kids: kids("t1", "t2")}},
		{"rename(t1, a as b)", api.Expr{Kind: api.ExprRename, Kids: kids("t1"), Attr: "a", As: "b"}},
		{"group(t1 on with count as n)", api.Expr{Kind: api.ExprGroup, Kids: kids("t1"), Agg: api.AggCount, As: "n"}},
		{"group(t1 on a with sum z as n)", api.Expr{Kind: api.ExprGroup, Kids: kids("t1"), Names: []string{"a"}, Agg: api.AggSum, Attr: "z", As: "n"}},
		{"group(t1 on a, b, c with least z as n)", api.Expr{Kind: api.ExprGroup, Kids: kids("t1"), Names: []string{"a", "b", "c"}, Agg: api.AggLeast, Attr: "z", As: "n"}},
		{"group(t1 on with greatest z as n)", api.Expr{Kind: api.ExprGroup, Kids: kids("t1"), Agg: api.AggGreatest, Attr: "z", As: "n"}},
		{"join(union(t1, t2), minus(t3, project(t4 on)))", api.Expr{Kind: api.ExprJoin, Kids: []api.Expr{{Kind: api.ExprUnion, Kids: kids("t1", "t2")}, {Kind: api.ExprMinus, Kids: []api.Expr{table("t3"), {Kind: api.ExprProject, Kids: kids("t4")}}}}}},
	} {
		out = append(out, sample{"query q1 = " + x.text + ";", api.Item{Kind: api.ItemQuery, Name: "q1", Expr: x.expr}})
	}
	return out
}

// tokensOf returns the tokens of a text as they are written there, without the gaps.
func tokensOf(source string) []string {
	var out []string
	tokens, _, _ := lexer.Lex(source)
	for _, token := range tokens {
		if token.Kind == api.TokText {
			token.Text = value.Text(text(token.Text))
		}
		out = append(out, token.Text)
	}
	return out
}

// P8.1: the examples of the chapter.
func TestExamples(t *testing.T) {
	checkTree(t, "source s trust 5;", program(api.Item{Kind: api.ItemOrigin, Name: "s", N: 5}))
	one := api.Cond{Left: attr("a"), Op: api.OpEqual, Right: constant(number(-1)), Add: 2}
	kid := api.Expr{Kind: api.ExprTable, Table: "select", At: 17}
	checkTree(t, "query q = select(select where a = -1 + 2);", program(query(api.Expr{Kind: api.ExprSelect, Kids: []api.Expr{kid}, Conds: []api.Cond{one}, At: 10})))
	checkError(t, "query q = t(", api.ErrSyntax, 11)
	checkError(t, "keep t.a by", api.ErrEnd, 11)
	checkItems(t, "query q = group(t on with count as n);", query(api.Expr{Kind: api.ExprGroup, Kids: kids("t"), Agg: api.AggCount, As: "n"}))
}

// P8.1: a text without tokens is a program without items.
func TestNoTokens(t *testing.T) {
	for _, source := range []string{"", " ", "\t", "\n", "#", "# source s trust 5;", "\n# a\n\n # b\n\t", strings.Repeat(" ", 20000), "#" + strings.Repeat("!", 19999)} {
		checkTree(t, source, api.Program{})
	}
}

// P8.1: every sample has its tree, alone, behind and before others, and with all of them.
func TestSamples(t *testing.T) {
	source := ""
	var items []api.Item
	for _, s := range samples() {
		checkItems(t, s.text, s.item)
		source += s.text
		items = append(items, s.item)
		checkItems(t, source, items...)
		checkItems(t, s.text+s.text, s.item, s.item)
	}
}

// P8.1, P8.5: items and expressions have the offsets of their first tokens.
func TestOffsetsOfSamples(t *testing.T) {
	source := " table t (a text) key a;query q = union( t,\n minus (select(u where a = b) , v));# x\n\nkeep t.a by most;match m on t at 1{}unique k on t(a);"
	p := parse(t, source)
	for i, want := range []string{"table", "query", "keep", "match", "unique"} {
		if at := p.Items[i].At; at != strings.Index(source, want) {
			t.Errorf("%s at %d", want, at)
		}
	}
	x := p.Items[1].Expr
	for _, test := range []struct {
		expr api.Expr
		want string
	}{{x, "union"}, {x.Kids[0], "t,\n"}, {x.Kids[1], "minus"}, {x.Kids[1].Kids[0], "select"}, {x.Kids[1].Kids[0].Kids[0], "u where"}, {x.Kids[1].Kids[1], "v)"}} {
		if test.expr.At != strings.Index(source, test.want) {
			t.Errorf("%s at %d", test.want, test.expr.At)
		}
	}
	if x := p.Items[0].Expr; x.At != 0 || p.Items[2].Expr.At != 0 {
		t.Errorf("an item that is no query has the expression %+v", x)
	}
}

// P8.1: key words are names where a NAME stands, but for three words on sides, and with behind "on" in a group.
func TestKeyWordsAsNames(t *testing.T) {
	m := newModel()
	words := append(slices.Clone(keyWords), "x", "Table", "a_name_with_24_bytes____")
	if len(words) < 55 {
		t.Fatalf("only %d key words", len(words))
	}
	count := 0
	for _, s := range samples() {
		tokens, parts := tokensOf(s.text), m.read(s.text).parts
		for i, old := range tokens {
			if !slices.Contains([]string{"NAME", "SIDE", "FIRST"}, parts[i]) {
				continue
			}
			for _, word := range words {
				if !takes(part{text: parts[i]}, api.Token{Kind: api.TokName, Text: word}) {
					continue
				}
				count++
				source := strings.Join(slices.Concat(tokens[:i], []string{word}, tokens[i+1:]), " ")
				checkItems(t, source, renamed(s.item, old, word))
			}
		}
	}
	if count < 5000 {
		t.Errorf("only %d names were replaced", count)
	}
}

// renamed returns a copy of an item in which a name is another one.
func renamed(item api.Item, old, name string) api.Item {
	out := copied(reflect.ValueOf(item)).Interface().(api.Item)
	walk("", reflect.ValueOf(&out).Elem(), func(_ string, v reflect.Value) {
		if v.Kind() == reflect.String && v.String() == old {
			v.SetString(name)
		}
	})
	return out
}

// copied returns a copy of a value that shares no memory with it.
func copied(v reflect.Value) reflect.Value {
	out := reflect.New(v.Type()).Elem()
	switch v.Kind() {
	case reflect.Struct:
		for i := range v.NumField() {
			out.Field(i).Set(copied(v.Field(i)))
		}
	case reflect.Slice:
		for i := range v.Len() {
			out.Set(reflect.Append(out, copied(v.Index(i))))
		}
	default:
		out.Set(v)
	}
	return out
}

// P8.1: as a side, true, false and null are values; behind a ".", and with other letters, they are names.
func TestValuesAsSides(t *testing.T) {
	names := []string{"true", "false", "null"}
	values := []api.Value{flag(1), flag(0), null}
	check := func(conds string, want ...api.Cond) {
		t.Helper()
		checkItems(t, "deny d t x where "+conds+";", api.Item{Kind: api.ItemDeny, Name: "d", Vars: []api.Var{{Name: "x", Table: "t"}}, Conds: want})
		checkItems(t, "query q = select(t where "+conds+");", query(api.Expr{Kind: api.ExprSelect, Kids: kids("t"), Conds: want}))
	}
	for i, name := range names {
		check(name+" = a", api.Cond{Left: constant(values[i]), Op: api.OpEqual, Right: attr("a")})
		check("a < "+name+" + 1", api.Cond{Left: attr("a"), Op: api.OpLess, Right: constant(values[i]), Add: 1})
		check("a != "+name+" and "+name+" <= b", api.Cond{Left: attr("a"), Op: api.OpUnlike, Right: constant(values[i])}, api.Cond{Left: constant(values[i]), Op: api.OpAtMost, Right: attr("b")})
		check("x."+name+" = and.where", api.Cond{Left: of("x", name), Op: api.OpEqual, Right: of("and", "where")})
		for k, other := range names {
			check(name+" = "+other, api.Cond{Left: constant(values[i]), Op: api.OpEqual, Right: constant(values[k])})
		}
		for _, like := range []string{strings.ToUpper(name), name + "s", name + "_", name[:3]} {
			check(like+" = "+like+".a", api.Cond{Left: attr(like), Op: api.OpEqual, Right: of(like, "a")})
		}
		for _, before := range []string{"deny d t x where ", "query q = select(t where "} {
			checkSyntax(t, before+name+"^.a = 1;")
			checkSyntax(t, before+"a = "+name+"^.a;")
			checkSyntax(t, before+"a = 1 and "+name+"^.a = 1;")
			checkSyntax(t, before+name+" ^a = 1;")
			checkSyntax(t, before+"\""+name+"\"^.a = 1;")
		}
		check("\""+name+"\" = a", api.Cond{Left: constant(text(name)), Op: api.OpEqual, Right: attr("a")})
	}
}

// P8.1: behind "on" in a group, with is the key word; behind a comma, and anywhere else, it is a name.
func TestWithInGroups(t *testing.T) {
	check := func(rest string, names []string, agg int, attr, as string) {
		t.Helper()
		checkItems(t, "query q = group(t on "+rest+");", query(api.Expr{Kind: api.ExprGroup, Kids: kids("t"), Names: names, Agg: agg, Attr: attr, As: as}))
	}
	check("with count as n", nil, api.AggCount, "", "n")
	check("with count as with", nil, api.AggCount, "", "with")
	check("with sum with as with", nil, api.AggSum, "with", "with")
	check("a with count as n", []string{"a"}, api.AggCount, "", "n")
	check("a, with with count as n", []string{"a", "with"}, api.AggCount, "", "n")
	check("a, with, with, b with least with as n", []string{"a", "with", "with", "b"}, api.AggLeast, "with", "n")
	check("count, count with count as count", []string{"count", "count"}, api.AggCount, "", "count")
	check("on with greatest count as on", []string{"on"}, api.AggGreatest, "count", "on")
	check("With with sum as as as", []string{"With"}, api.AggSum, "as", "as")
	checkItems(t, "query q = group(with on with count as n);", query(api.Expr{Kind: api.ExprGroup, Kids: kids("with"), Agg: api.AggCount, As: "n"}))
	checkItems(t, "query q = project(t on with);", query(api.Expr{Kind: api.ExprProject, Kids: kids("t"), Names: []string{"with"}}))
	checkItems(t, "query q = project(t on with, with);", query(api.Expr{Kind: api.ExprProject, Kids: kids("t"), Names: []string{"with", "with"}}))
	for _, rest := range []string{"with ^with count as n);", "with^, a with count as n);", "with ^as n);", "with ^)", "^) with count as n);", "^, with count as n);", "a, ^, b with count as n);", "a ^count as n);", "a, with ^count as n);", "with count ^a as n);", "with sum as ^5);", "with sum ^;", "^\"with\" count as n);", "^\"a\" with count as n);", "a ^\"with\" count as n);"} {
		checkSyntax(t, "query q = group(t on "+rest)
	}
}

// P8.1: the name of an operation is this operation if "(" is the next token, and a table otherwise.
func TestNamesOfOperations(t *testing.T) {
	behind := map[string]string{"select": " where a = 1)", "project": " on)", "join": ", u)", "union": ", u)", "minus": ", u)", "rename": ", a as b)", "group": " on with count as n)"}
	kinds := map[string]int{"select": api.ExprSelect, "project": api.ExprProject, "join": api.ExprJoin, "union": api.ExprUnion, "minus": api.ExprMinus, "rename": api.ExprRename, "group": api.ExprGroup}
	for name, rest := range behind {
		checkTree(t, "query q = "+name+";", program(query(api.Expr{Kind: api.ExprTable, Table: name, At: 10})))
		checkItems(t, "query q = union("+name+", "+name+");", query(api.Expr{Kind: api.ExprUnion, Kids: kids(name, name)}))
		for other, end := range behind {
			source := "query q = " + other + "(" + name + end + ";"
			x := parse(t, source).Items[0].Expr
			if x.Kind != kinds[other] || x.At != 10 || !reflect.DeepEqual(x.Kids[0], api.Expr{Kind: api.ExprTable, Table: name, At: 11 + len(other)}) {
				t.Errorf("%s: %+v", source, x)
			}
		}
		for _, gap := range []string{"", " ", "\n\t", " # (\n "} {
			for _, inner := range []string{"", "# )\n"} {
				source := "query q = " + name + gap + "(" + inner + "t" + rest + ";"
				x := parse(t, source).Items[0].Expr
				want := api.Expr{Kind: api.ExprTable, Table: "t", At: 11 + len(name) + len(gap) + len(inner)}
				if x.Kind != kinds[name] || x.At != 10 || !reflect.DeepEqual(x.Kids[0], want) {
					t.Errorf("%s: %+v", source, x)
				}
			}
		}
		for _, wrong := range []string{strings.ToUpper(name), name + "s", name + "_", "t", "table", "where"} {
			checkSyntax(t, "query q = "+wrong+"^(t"+rest+";")
			checkSyntax(t, "query q = join(t, "+wrong+"^(t"+rest+");")
		}
		for _, wrong := range []string{"^\"(\"", " ^t", "^{", "^)", " ^5", "( ^("} {
			checkSyntax(t, "query q = "+name+wrong+" t"+rest+";")
		}
		checkSyntax(t, "query q = ^\""+name+"\"(t"+rest+";")
		checkError(t, "query q = "+name, api.ErrEnd, 10+len(name))
		checkError(t, "query q = "+name+"(", api.ErrEnd, 11+len(name))
	}
}

// written is a value as it is written.
type written struct {
	text  string
	value api.Value
}

// values returns values of each kind as they are written, also beyond the limits of values.
func values() []written {
	out := []written{{"null", null}, {"true", flag(1)}, {"false", flag(0)}, {"\"\"", text("")}, {"\"a\"", text("a")}, {`"a\"b\\c\nd"`, text("a\"b\\c\nd")}, {"\"null\"", text("null")}, {"\"5\"", text("5")}, {"\";\"", text(";")}, {"\"" + strings.Repeat("x", 200) + "\"", text(strings.Repeat("x", 200))}}
	for _, n := range []int{0, 1, 9, 10, 73048, 73049, 999999999, 1000000000, 1000000001, 2147483648, 4294967296, 9999999999} {
		digits := fmt.Sprint(n)
		long := strings.Repeat("0", 10-len(digits)) + digits
		for _, d := range []string{digits, long} {
			out = append(out, written{d, number(n)}, written{"-" + d, number(-n)}, written{"- " + d, number(-n)}, written{"@" + d, day(n)}, written{"@ # x\n" + d, day(n)})
		}
	}
	return out
}

// P8.1: each kind of value stands for itself as a default, as a constant of a depend, and on both sides of a condition.
func TestValues(t *testing.T) {
	for _, v := range values() {
		for kind, word := range []string{"text", "number", "day", "flag"} {
			checkItems(t, "table t (a "+word+" = "+v.text+") key a;", api.Item{Kind: api.ItemTable, Name: "t", Columns: []api.Column{{Name: "a", Kind: kind + 1, Default: v.value}}, Names: []string{"a"}})
		}
		checkItems(t, "depend d on t(a) to b where c = "+v.text+", e="+v.text+";", api.Item{Kind: api.ItemDepend, Name: "d", Table: "t", Names: []string{"a"}, Attr: "b", Fixed: []api.Named{{Name: "c", Value: v.value}, {Name: "e", Value: v.value}}})
		for _, other := range values() {
			want := []api.Cond{{Left: constant(v.value), Op: api.OpLess, Right: constant(other.value), Add: -7}}
			checkItems(t, "query q = select(t where "+v.text+" < "+other.text+" - 7);", query(api.Expr{Kind: api.ExprSelect, Kids: kids("t"), Conds: want}))
		}
	}
}

// P8.1: what is almost a value is an ErrSyntax at the token with which it is none, in each place where a value stands.
func TestNoValues(t *testing.T) {
	for _, wrong := range []string{"^;", "^,", "^)", "^+ 1", "^/ 2", "-^- 1", "-^\"a\"", "-^@1", "-^true", "-^null", "-^a", "-^;", "@^-1", "@^@1", "@^\"a\"", "@^false", "@^a", "@^,", "^= 1", "^(1)", "^.a", "^{", "1^.2", "1 ^2", "null ^null", "\"a\" ^\"b\"", "-1 ^2", "@1 ^2", "1^/2", "1^(2)"} {
		checkSyntax(t, "table t (a number = "+wrong+") key a;")
		checkSyntax(t, "depend d on t(a) to b where c = "+wrong+", f = 1;")
		checkSyntax(t, "deny d t x where a = "+wrong+";")
		checkSyntax(t, "deny d t x where "+wrong+" = a;")
	}
	for _, name := range []string{"a", "nulls", "TRUE", "False", "a.b"} {
		checkSyntax(t, "table t (a number = ^"+name+") key a;")
		checkSyntax(t, "depend d on t(a) to b where c = ^"+name+";")
	}
}

// P8.1: each comparison, with and without a number behind it, between constants and attributes.
func TestConditions(t *testing.T) {
	ops := []written{{"=", number(api.OpEqual)}, {"!=", number(api.OpUnlike)}, {"<", number(api.OpLess)}, {"<=", number(api.OpAtMost)}}
	adds := []written{{"", number(0)}, {"+ 0", number(0)}, {"- 0", number(0)}, {"+ 1", number(1)}, {"-1", number(-1)}, {"+007", number(7)}, {"+ 9999999999", number(9999999999)}, {"- 9999999999", number(-9999999999)}}
	sides := []struct {
		text string
		side api.Operand
	}{{"a", attr("a")}, {"x.a", of("x", "a")}, {"x . true", of("x", "true")}, {"5", constant(number(5))}, {"-5", constant(number(-5))}, {"@5", constant(day(5))}, {"\"a\"", constant(text("a"))}, {"true", constant(flag(1))}, {"false", constant(flag(0))}, {"null", constant(null)}}
	before, after := "a = b + 1 and ", " and 1 <= c - 2"
	first := api.Cond{Left: attr("a"), Op: api.OpEqual, Right: attr("b"), Add: 1}
	last := api.Cond{Left: constant(number(1)), Op: api.OpAtMost, Right: attr("c"), Add: -2}
	for _, op := range ops {
		for _, add := range adds {
			for _, left := range sides {
				for _, right := range sides {
					source := left.text + op.text + right.text + " " + add.text
					c := api.Cond{Left: left.side, Op: op.value.N, Right: right.side, Add: add.value.N}
					checkItems(t, "deny d t x where "+source+";", api.Item{Kind: api.ItemDeny, Name: "d", Vars: []api.Var{{Name: "x", Table: "t"}}, Conds: []api.Cond{c}})
					checkItems(t, "query q = select(t where "+before+source+after+");", query(api.Expr{Kind: api.ExprSelect, Kids: kids("t"), Conds: []api.Cond{first, c, last}}))
				}
			}
		}
	}
}

// P8.1: what is almost a condition is an ErrSyntax at the token with which it is none.
func TestNoConditions(t *testing.T) {
	for _, wrong := range []string{"a ^and b = 1", "a ^+ 1 = b", "a ^- 1 = b", "a ^1", "a =^= b", "a <^< b", "a =^< b", "a != ^!= b", "a = b ^= 1", "a = b ^< c", "a = b + ^- 1", "a = b - ^- 1", "a = b + ^c", "a = b + ^@1", "a = b + ^\"1\"", "a = b + 1 ^+ 1", "a = b + 1 ^- 1", "a = b + 1 ^1", "a = b + 1^/2", "a = b ^1", "a.^1 = b", "a.^\"b\" = c", "a.b^.c = d", "a.^.b = c", "^.a = b", "a^(b) = c", "^(a = b)", "a = b ^or c = d", "a = b^, c = d", "a ^\"=\" b", "a = b ^\"+\" 1", "a = b ^\"and\" c = d", "a = b and and^;", "and ^and", "and ^where", "and = and and and = and + 1 and ^;", "^;", "a^;", "a = ^;", "a = b + ^;", "a = b and ^;"} {
		for _, before := range []string{"deny d t x where ", "query q = select(t where ", "query q = select(t where b <= 7 + 7 and "} {
			checkSyntax(t, before+wrong+";")
		}
	}
}

// P8.1: numbers are taken as they are, wherever they stand.
func TestNumbers(t *testing.T) {
	for _, n := range []int{0, 1, 64, 1000000, 1000000000, 1000000001, 9999999999} {
		digits := fmt.Sprint(n)
		for _, d := range []string{digits, strings.Repeat("0", 10-len(digits)) + digits} {
			checkItems(t, "source s trust "+d+";", api.Item{Kind: api.ItemOrigin, Name: "s", N: n})
			checkItems(t, "block b on t.a by prefix "+d+";", api.Item{Kind: api.ItemBlock, Name: "b", Table: "t", Attr: "a", By: api.ByPrefix, N: n})
			checkItems(t, "block b on t.a by sketch "+d+" 3;", api.Item{Kind: api.ItemBlock, Name: "b", Table: "t", Attr: "a", By: api.BySketch, N: n, M: 3})
			checkItems(t, "block b on t.a by sketch 3 "+d+";", api.Item{Kind: api.ItemBlock, Name: "b", Table: "t", Attr: "a", By: api.BySketch, N: 3, M: n})
			checkItems(t, "match m on t at "+d+" { }", api.Item{Kind: api.ItemMatch, Name: "m", Table: "t", N: n})
			for i, want := range []api.Term{{Tolerance: n, Least: api.Ratio{Num: 2, Den: 3}, Gives: 4, Takes: 5}, {Tolerance: 1, Least: api.Ratio{Num: n, Den: 3}, Gives: 4, Takes: 5}, {Tolerance: 1, Least: api.Ratio{Num: 2, Den: n}, Gives: 4, Takes: 5}, {Tolerance: 1, Least: api.Ratio{Num: 2, Den: 3}, Gives: n, Takes: 5}, {Tolerance: 1, Least: api.Ratio{Num: 2, Den: 3}, Gives: 4, Takes: n}} {
				list := []any{"1", "2", "3", "4", "5"}
				list[i] = d
				want.Attr, want.Measure = "a", api.MeasureNear
				checkItems(t, fmt.Sprintf("match m on t at 9 { a near %s least %s/%s gives %s takes %s; }", list...), api.Item{Kind: api.ItemMatch, Name: "m", Table: "t", N: 9, Terms: []api.Term{want}})
			}
		}
	}
	for _, wrong := range []string{"source s trust ^-5;", "source s trust ^@5;", "source s trust ^\"5\";", "block b on t.a by prefix ^-1;", "match m on t at ^- 1 {", "match m on t at 1 { a near ^-1", "match m on t at 1 { a edit ^1", "match m on t at 1 { a edit least ^-1", "match m on t at 1 { a edit least 1/^-2", "match m on t at 1 { a edit least 1/2^/3", "match m on t at 1 { a edit least 1 gives ^-1", "match m on t at 1 { a edit least 1 gives 1 takes ^-1"} {
		checkSyntax(t, wrong)
	}
}
