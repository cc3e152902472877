package resolve_test

import (
	"fmt"
	"reflect"
	"slices"
	"strings"
	"testing"

	"cleanse/api"
	"cleanse/parser"
	"cleanse/resolve"
	"cleanse/schema"
)

// base has the tables t and u, in which the tests look up names.
const base = `table t(name text = "x", age number, born day = @3, ok flag, nick text) key name, ok;
table u(ref text, n number = -7) key ref;
`

var null = api.Value{}

func text(s string) api.Value { return api.Value{Kind: api.KindText, Text: s} }

func number(n int) api.Value { return api.Value{Kind: api.KindNumber, N: n} }

func day(n int) api.Value { return api.Value{Kind: api.KindDay, N: n} }

func flag(n int) api.Value { return api.Value{Kind: api.KindFlag, N: n} }

// constant, attr and of return sides of conditions.
func constant(v api.Value) api.Operand { return api.Operand{Const: true, Value: v} }

func attr(name string) api.Operand { return api.Operand{Attr: name} }

func of(variable, name string) api.Operand { return api.Operand{Var: variable, Attr: name} }

// cond returns the condition that two sides are equal.
func cond(left, right api.Operand) api.Cond {
	return api.Cond{Left: left, Op: api.OpEqual, Right: right}
}

// relation returns the expression of a table.
func relation(name string) api.Expr { return api.Expr{Kind: api.ExprTable, Table: name} }

// query returns a query with the name q.
func query(x api.Expr) api.Item { return api.Item{Kind: api.ItemQuery, Name: "q", Expr: x} }

// named returns an item with another name.
func named(x api.Item, name string) api.Item {
	x.Name = name
	return x
}

// program returns a tree of items. The offset of each is its index times ten.
func program(items ...api.Item) api.Program {
	items = slices.Clone(items)
	for i := range items {
		items[i].At = 10 * i
	}
	return api.Program{Items: items}
}

// parse returns the tree of a text.
func parse(source string) api.Program {
	p, err, at := parser.Parse(source)
	if err != api.OK {
		panic(fmt.Sprintf("%s: error %d at %d", source, err, at))
	}
	return p
}

// after returns the tree of the base with items behind its tables, whose offsets are 20, 30 and so on.
func after(items ...api.Item) api.Program {
	return program(append(parse(base).Items, items...)...)
}

// item returns the item of a text.
func item(source string) api.Item { return parse(source).Items[0] }

// equal reports whether two values are equal. Slices without elements are.
func equal(a, b reflect.Value) bool {
	switch a.Kind() {
	case reflect.Struct:
		for i := range a.NumField() {
			if !equal(a.Field(i), b.Field(i)) {
				return false
			}
		}
		return true
	case reflect.Slice:
		for i := range min(a.Len(), b.Len()) {
			if !equal(a.Index(i), b.Index(i)) {
				return false
			}
		}
		return a.Len() == b.Len()
	}
	return a.Interface() == b.Interface()
}

// isEqual reports whether two values of a type are equal.
func isEqual[T any](a, b T) bool { return equal(reflect.ValueOf(a), reflect.ValueOf(b)) }

// show returns the beginning of a text of a value.
func show(x any) string { return fmt.Sprintf("%.1500s", fmt.Sprintf("%+v", x)) }

// check checks that there is a setup without faults, and that nothing else stands beside faults.
func check(t *testing.T, about any, got api.Setup, faults []api.Fault, want api.Setup, wanted []api.Fault) {
	t.Helper()
	if !isEqual(faults, wanted) {
		t.Fatalf("%s:\nfaults %v, not %v", show(about), faults, wanted)
	}
	if !isEqual(got, want) {
		t.Fatalf("%s:\n%s, not\n%s", show(about), show(got), show(want))
	}
}

// checkFaults checks the faults of a tree, without which it has a setup.
func checkFaults(t *testing.T, p api.Program, wanted ...api.Fault) {
	t.Helper()
	got, faults := resolve.Resolve(p)
	if !isEqual(faults, wanted) {
		t.Fatalf("%s:\nfaults %v, not %v", show(p), faults, wanted)
	}
	if len(faults) > 0 && !isEqual(got, api.Setup{}) {
		t.Fatalf("%s:\nfaults %v beside %s", show(p), faults, show(got))
	}
}

// checkFault checks the only fault of an item behind the base; OK means none.
func checkFault(t *testing.T, x api.Item, err api.Errno) {
	t.Helper()
	if err == api.OK {
		checkFaults(t, after(x))
		return
	}
	checkFaults(t, after(x), api.Fault{Err: err, At: 20})
}

// compiled returns the setup of a text behind the base that has no faults.
func compiled(t *testing.T, source string) api.Setup {
	t.Helper()
	got, faults := resolve.Compile(base + source)
	if len(faults) > 0 {
		t.Fatalf("%s: faults %v", source, faults)
	}
	return got
}

// P10.1 (J1): the schema has the tables with their attributes, without former names, and their keys in increasing order.
func TestSchemas(t *testing.T) {
	want := api.Schema{Tables: []api.Table{
		{Name: "t", Key: []int{0, 3}, Attrs: []api.Attr{
			{Name: "name", Kind: api.KindText, Default: text("x")},
			{Name: "age", Kind: api.KindNumber},
			{Name: "born", Kind: api.KindDay, Default: day(3)},
			{Name: "ok", Kind: api.KindFlag},
			{Name: "nick", Kind: api.KindText},
		}},
		{Name: "u", Key: []int{0}, Attrs: []api.Attr{{Name: "ref", Kind: api.KindText}, {Name: "n", Kind: api.KindNumber, Default: number(-7)}}},
	}}
	if got := compiled(t, ""); !isEqual(got, api.Setup{Schema: want}) {
		t.Errorf("%s, not %s", show(got), show(want))
	}
	for source, key := range map[string][]int{
		"table v(a text, b text, c text) key c, a;":    {0, 2},
		"table v(a text, b text, c text) key c, b, a;": {0, 1, 2},
		"table v(a text, b text, c text) key b;":       {1},
	} {
		if got := compiled(t, source).Schema.Tables[2].Key; !slices.Equal(got, key) {
			t.Errorf("%s: key %v", source, got)
		}
	}
}

// P10.1 (J1): sources, blocks, matches and keeps have indices instead of names, each in the order of its items.
func TestOtherParts(t *testing.T) {
	got := compiled(t, `source b trust 0; keep u.n by greatest; block x on t.nick by exact; source a trust 100;
block b on u.n by token; block a on t.name by prefix 3; block c on t.ok by sketch 12 4;
match z on u at 9 { n near 5 least 1/2 gives 3 takes 4; n equal least 1 gives 0; ref edit least 0 gives 1000 takes 1000; }
match a on t at 0 { nick jaccard least 3/4 gives 7; name jaro least 1/9 gives 1; born near 0 least 1 gives 2; }
keep t.nick by longest; keep t.name by latest; keep t.ok by trusted; keep t.age by most; keep t.born by least;`)
	want := api.Setup{
		Schema:  compiled(t, "").Schema,
		Origins: []api.Origin{{Name: "b"}, {Name: "a", Trust: 100}},
		Blocks: []api.Block{
			{Name: "x", Col: 4, By: api.ByExact},
			{Name: "b", Table: 1, Col: 1, By: api.ByToken},
			{Name: "a", By: api.ByPrefix, N: 3},
			{Name: "c", Col: 3, By: api.BySketch, N: 12, M: 4},
		},
		Matches: []api.Match{
			{Name: "z", Table: 1, At: 9, Terms: []api.Weigh{
				{Col: 1, Measure: api.MeasureNear, Tolerance: 5, Least: api.Ratio{Num: 1, Den: 2}, Gives: 3, Takes: 4},
				{Col: 1, Measure: api.MeasureEqual, Least: api.Ratio{Num: 1, Den: 1}},
				{Measure: api.MeasureEdit, Least: api.Ratio{Den: 1}, Gives: 1000, Takes: 1000},
			}},
			{Name: "a", Terms: []api.Weigh{
				{Col: 4, Measure: api.MeasureJaccard, Least: api.Ratio{Num: 3, Den: 4}, Gives: 7},
				{Measure: api.MeasureJaro, Least: api.Ratio{Num: 1, Den: 9}, Gives: 1},
				{Col: 2, Measure: api.MeasureNear, Least: api.Ratio{Num: 1, Den: 1}, Gives: 2},
			}},
		},
		Keeps: []api.Keep{{Table: 1, Col: 1, By: api.KeepGreatest}, {Col: 4, By: api.KeepLongest}, {By: api.KeepLatest}, {Col: 3, By: api.KeepTrusted}, {Col: 1, By: api.KeepMost}, {Col: 2, By: api.KeepLeast}},
	}
	if !isEqual(got, want) {
		t.Errorf("%s, not\n%s", show(got), show(want))
	}
}

// P10.1 (J1): constraints have indices instead of names; attributes stay in the order in which they are named.
func TestRules(t *testing.T) {
	got := compiled(t, `unique b on t(nick, name, ok); depend c on t(born, age) to name where ok = false, nick = "";
depend a on u(n) to ref; include e u.ref in t.nick; include d t.nick in t.name; unique f on u(ref);
deny h t x, u y, t z where x.age <= z.age - 3 and "a" != y.ref and z.ok = true and @5 < x.born + 4;
deny g u n where n.n < 3;`).Rules
	side := func(variable, col int) api.Side { return api.Side{Var: variable, Col: col} }
	value := func(v api.Value) api.Side { return api.Side{Var: -1, Value: v} }
	want := []api.Rule{
		{Kind: api.RuleUnique, Name: "b", Cols: []int{4, 0, 3}},
		{Kind: api.RuleDepend, Name: "c", Cols: []int{2, 1}, Fixed: []api.Fixed{{Col: 3, Value: flag(0)}, {Col: 4, Value: text("")}}},
		{Kind: api.RuleDepend, Name: "a", Table: 1, Cols: []int{1}},
		{Kind: api.RuleInclude, Name: "e", Table: 1, OtherCol: 4},
		{Kind: api.RuleInclude, Name: "d", Col: 4},
		{Kind: api.RuleUnique, Name: "f", Table: 1, Cols: []int{0}},
		{Kind: api.RuleDeny, Name: "h", Tables: []int{0, 1, 0}, Tests: []api.Test{
			{Left: side(0, 1), Op: api.OpAtMost, Right: side(2, 1), Add: -3},
			{Left: value(text("a")), Op: api.OpUnlike, Right: side(1, 0)},
			{Left: side(2, 3), Op: api.OpEqual, Right: value(flag(1))},
			{Left: value(day(5)), Op: api.OpLess, Right: side(0, 2), Add: 4},
		}},
		{Kind: api.RuleDeny, Name: "g", Tables: []int{1}, Tests: []api.Test{{Left: side(0, 1), Op: api.OpLess, Right: value(number(3))}}},
	}
	if !isEqual(got, want) {
		t.Errorf("%s, not\n%s", show(got), show(want))
	}
}

// attrs returns attributes by their names and kinds: "name1 age2" are a text and a number.
func attrs(list string) []api.Attr {
	var out []api.Attr
	for _, word := range strings.Fields(list) {
		last := len(word) - 1
		out = append(out, api.Attr{Name: word[:last], Kind: int(word[last] - '0')})
	}
	return out
}

// The attributes of the tables of the base.
const (
	ofT = "name1 age2 born3 ok4 nick1"
	ofU = "ref1 n2"
)

// planT and planU return the plans of the tables of the base.
func planT() api.Plan { return api.Plan{Kind: api.ExprTable, Attrs: attrs(ofT)} }

func planU() api.Plan { return api.Plan{Kind: api.ExprTable, Table: 1, Attrs: attrs(ofU)} }

// P10.1 (J1), P10.7: each kind of expression has its plan.
func TestPlans(t *testing.T) {
	column := func(col int) api.Side { return api.Side{Col: col} }
	for source, want := range map[string]api.Plan{
		"t": planT(),
		"u": planU(),
		"select(u where n <= 3 + 1 and ref != \"a\" and ref = ref)": {Kind: api.ExprSelect, Kids: []api.Plan{planU()}, Attrs: attrs(ofU), Tests: []api.Test{
			{Left: column(1), Op: api.OpAtMost, Right: api.Side{Var: -1, Value: number(3)}, Add: 1},
			{Left: column(0), Op: api.OpUnlike, Right: api.Side{Var: -1, Value: text("a")}},
			{Left: column(0), Op: api.OpEqual, Right: column(0)},
		}},
		"project(t on)":                            {Kind: api.ExprProject, Kids: []api.Plan{planT()}},
		"project(t on ok, name, age)":              {Kind: api.ExprProject, Kids: []api.Plan{planT()}, Cols: []int{3, 0, 1}, Attrs: attrs("ok4 name1 age2")},
		"join(t, u)":                               {Kind: api.ExprJoin, Kids: []api.Plan{planT(), planU()}, Attrs: attrs(ofT + " " + ofU)},
		"join(u, u)":                               {Kind: api.ExprJoin, Kids: []api.Plan{planU(), planU()}, Attrs: attrs(ofU)},
		"union(u, u)":                              {Kind: api.ExprUnion, Kids: []api.Plan{planU(), planU()}, Attrs: attrs(ofU)},
		"minus(t, t)":                              {Kind: api.ExprMinus, Kids: []api.Plan{planT(), planT()}, Attrs: attrs(ofT)},
		"rename(t, born as day)":                   {Kind: api.ExprRename, Kids: []api.Plan{planT()}, Col: 2, Attrs: attrs("name1 age2 day3 ok4 nick1")},
		"group(t on with count as n)":              {Kind: api.ExprGroup, Kids: []api.Plan{planT()}, Agg: api.AggCount, Col: -1, Attrs: attrs("n2")},
		"group(t on ok, nick with sum age as n)":   {Kind: api.ExprGroup, Kids: []api.Plan{planT()}, Agg: api.AggSum, Col: 1, Cols: []int{3, 4}, Attrs: attrs("ok4 nick1 n2")},
		"group(t on age with least name as x)":     {Kind: api.ExprGroup, Kids: []api.Plan{planT()}, Agg: api.AggLeast, Cols: []int{1}, Attrs: attrs("age2 x1")},
		"group(t on age with greatest ok as ok)":   {Kind: api.ExprGroup, Kids: []api.Plan{planT()}, Agg: api.AggGreatest, Col: 3, Cols: []int{1}, Attrs: attrs("age2 ok4")},
		"group(t on born with greatest born as x)": {Kind: api.ExprGroup, Kids: []api.Plan{planT()}, Agg: api.AggGreatest, Col: 2, Cols: []int{2}, Attrs: attrs("born3 x3")},
	} {
		got := compiled(t, "query q = "+source+";").Queries
		if !isEqual(got, []api.Query{{Name: "q", Plan: want}}) {
			t.Errorf("%s: %s, not\n%s", source, show(got), show(want))
		}
	}
}

// P10.1 (J1), P10.7: the attributes of expressions within each other.
func TestAttributes(t *testing.T) {
	for source, want := range map[string]string{
		"join(t, rename(u, ref as name))":                                          ofT + " n2",
		"join(rename(u, ref as nick), t)":                                          "nick1 n2 name1 age2 born3 ok4",
		"join(project(t on nick, age), rename(rename(u, n as age), ref as nick))":  "nick1 age2",
		"join(project(t on), u)":                                                   ofU,
		"join(u, project(t on))":                                                   ofU,
		"union(project(t on), project(u on))":                                      "",
		"rename(t, age as age)":                                                    ofT,
		"rename(rename(t, age as x), name as age)":                                 "age1 x2 born3 ok4 nick1",
		"rename(project(t on age, ok), ok as name)":                                "age2 name4",
		"minus(project(t on nick, age), rename(rename(u, n as age), ref as nick))": "nick1 age2",
		"group(group(t on ok, age with count as n) on n with sum age as ok)":       "n2 ok2",
		"group(t on name, age, born, ok, nick with count as n)":                    ofT + " n2",
		"project(group(t on ok with least born as first) on first)":                "first3",
		"select(select(t where age = 3) where born = @3)":                          ofT,
		"select(group(t on name with count as n) where n <= 3 and 2 < n)":          "name1 n2",
		"project(join(t, u) on n, name, ref)":                                      "n2 name1 ref1",
	} {
		got := compiled(t, "query q = "+source+";").Queries[0].Plan.Attrs
		if !isEqual(got, attrs(want)) {
			t.Errorf("%s: %v, not %s", source, got, want)
		}
	}
}

// P10.1 (J1): queries stay in the order of their items.
func TestOrderOfQueries(t *testing.T) {
	got := compiled(t, "query b = t; query a = u; query t = project(u on);").Queries
	want := []api.Query{{Name: "b", Plan: planT()}, {Name: "a", Plan: planU()}, {Name: "t", Plan: api.Plan{Kind: api.ExprProject, Kids: []api.Plan{planU()}}}}
	if !isEqual(got, want) {
		t.Errorf("%s", show(got))
	}
}

// P10.1: no items have an empty setup.
func TestEmpty(t *testing.T) {
	got, faults := resolve.Resolve(api.Program{})
	check(t, "no tree", got, faults, api.Setup{}, nil)
	for _, source := range []string{"", " # x", "\n"} {
		got, faults = resolve.Compile(source)
		check(t, source, got, faults, api.Setup{}, nil)
		got, faults = resolve.With(source, nil)
		check(t, source, got, faults, api.Setup{}, nil)
		got, faults = resolve.With(source, []api.Change{{Kind: api.ChangeDrop, Table: "t", Attr: "a"}})
		check(t, source, got, faults, api.Setup{}, []api.Fault{{Err: api.ErrNone, At: -1}})
	}
}

// The examples of the chapter.
func TestChapterExamples(t *testing.T) {
	const table = "table t(a text, n number) key a; "
	got, faults := resolve.Compile(table + "unique k on t(n);")
	if len(faults) > 0 || !isEqual(got.Schema.Tables[0].Key, []int{0}) || !isEqual(got.Rules, []api.Rule{{Kind: api.RuleUnique, Name: "k", Cols: []int{1}}}) {
		t.Errorf("%s, %v", show(got), faults)
	}
	got, faults = resolve.Compile(table + "deny d t x, t y where x.n < y.n + 2;")
	want := []api.Rule{{Kind: api.RuleDeny, Name: "d", Tables: []int{0, 0}, Tests: []api.Test{{Left: api.Side{Col: 1}, Op: api.OpLess, Right: api.Side{Var: 1, Col: 1}, Add: 2}}}}
	if len(faults) > 0 || !isEqual(got.Rules, want) {
		t.Errorf("%s, %v", show(got), faults)
	}
	for source, fault := range map[string]api.Fault{
		table + "unique k on t(n); unique k on t(a);":             {Err: api.ErrTwice, At: len(table) + 18},
		"query q = select(t where a < 3); table t(a text) key a;": {Err: api.ErrType, At: 10},
		table + "keep t.n by longest;":                            {Err: api.ErrType, At: len(table)},
	} {
		got, faults = resolve.Compile(source)
		check(t, source, got, faults, api.Setup{}, []api.Fault{fault})
	}
}

// P10.1 (J2): a text has the setup and the faults of its tree, or the error of the parser.
func TestCompile(t *testing.T) {
	for _, source := range []string{"", base, base + "unique k on t(age, name);", base + "keep t.x by most; keep t.age by least; keep t.age by most; query q = join(t, v);"} {
		want, wanted := resolve.Resolve(parse(source))
		got, faults := resolve.Compile(source)
		check(t, source, got, faults, want, wanted)
	}
	for source, fault := range map[string]api.Fault{
		"table":                                  {Err: api.ErrEnd, At: 5},
		"keep t.x by most; keep t.x by x":        {Err: api.ErrSyntax, At: 30},
		base + "unique k on v(a); !":             {Err: api.ErrChar, At: len(base) + 18},
		"source s trust 12345678901;":            {Err: api.ErrNumber, At: 15},
		"source " + strings.Repeat("s", 25) + "": {Err: api.ErrLimit, At: 7},
		strings.Repeat(" ", 20001):               {Err: api.ErrLimit, At: -1},
		strings.Repeat("keep t.x by most;", 201): {Err: api.ErrLimit, At: 200 * 17},
	} {
		got, faults := resolve.Compile(source)
		check(t, source, got, faults, api.Setup{}, []api.Fault{fault})
		got, faults = resolve.With(source, []api.Change{{}})
		check(t, source, got, faults, api.Setup{}, []api.Fault{fault})
	}
}

// changes of the base.
func add(table, name string, kind int) api.Change {
	return api.Change{Kind: api.ChangeAdd, Table: table, Name: name, To: kind}
}

func drop(table, name string) api.Change {
	return api.Change{Kind: api.ChangeDrop, Table: table, Attr: name}
}

func rename(table, name, as string) api.Change {
	return api.Change{Kind: api.ChangeRename, Table: table, Attr: name, Name: as}
}

func cast(table, name string, kind int) api.Change {
	return api.Change{Kind: api.ChangeCast, Table: table, Attr: name, To: kind}
}

// changed returns the schema of the base after changes.
func changed(t *testing.T, changes ...api.Change) api.Schema {
	t.Helper()
	s := compiled(t, "").Schema
	for _, c := range changes {
		after, err := schema.Apply(s, c)
		if err != api.OK {
			t.Fatalf("%+v: error %d", c, err)
		}
		s = after
	}
	return s
}

// with returns the setup of a text behind the base after changes, with which it has no faults.
func with(t *testing.T, source string, changes ...api.Change) api.Setup {
	t.Helper()
	got, faults := resolve.With(base+source, changes)
	if len(faults) > 0 {
		t.Fatalf("%s: faults %v", source, faults)
	}
	if want := changed(t, changes...); !isEqual(got.Schema, want) {
		t.Fatalf("%s: the schema %s, not\n%s", source, show(got.Schema), show(want))
	}
	return got
}

// rest is what the tests of changes have behind the base: every kind of item but tables.
const rest = `source s trust 5; block b on t.age by exact; match m on t at 3 { name edit least 1 gives 2; age near 3 least 1 gives 1; }
keep t.age by most; unique k on t(age, name); depend d on t(name) to age where ok = true, nick = "x";
include i u.n in t.age; deny x t p, u r where p.age < r.n - 5 and p.born = @7;
query q = select(t where age < 3 + 1); query r = project(t on age, name); query p = join(t, u);
query o = rename(u, n as age); query n = group(t on name with sum age as s);
`

// P10.1 (J3): without changes the setup is that of the text.
func TestWithoutChanges(t *testing.T) {
	want := compiled(t, rest)
	for _, none := range [][]api.Change{nil, {}} {
		if got := with(t, rest, none...); !isEqual(got, want) {
			t.Errorf("%s, not\n%s", show(got), show(want))
		}
	}
}

// P10.1 (J3): indices are those after the changes.
func TestWithChanges(t *testing.T) {
	got := with(t, "unique k on t(nick, name); query q = project(t on nick, name); query r = t;", drop("t", "born"), add("u", "x", api.KindDay), drop("t", "age"))
	if !isEqual(got.Rules, []api.Rule{{Kind: api.RuleUnique, Name: "k", Cols: []int{2, 0}}}) {
		t.Errorf("%v", got.Rules)
	}
	plan := api.Plan{Kind: api.ExprTable, Attrs: attrs("name1 ok4 nick1")}
	if !isEqual(got.Queries, []api.Query{{Name: "q", Plan: api.Plan{Kind: api.ExprProject, Kids: []api.Plan{plan}, Cols: []int{2, 0}, Attrs: attrs("nick1 name1")}}, {Name: "r", Plan: plan}}) {
		t.Errorf("%s", show(got.Queries))
	}
	got = with(t, "query q = join(u, t);", cast("t", "age", api.KindText), add("u", "age", api.KindText), add("u", "x", api.KindFlag), rename("u", "x", "y"))
	// The attribute y was called x when it was added, and queries find it so.
	if want := attrs("ref1 n2 age1 x4 name1 born3 ok4 nick1"); !isEqual(got.Queries[0].Plan.Attrs, want) {
		t.Errorf("%v", got.Queries[0].Plan.Attrs)
	}
	got = with(t, "block b on t.age by token; match m on t at 1 { age equal least 1 gives 1; } keep t.age by least; include i t.age in t.age;", cast("t", "age", api.KindText), rename("t", "age", "years"), rename("t", "years", "old"))
	if !isEqual(got.Blocks, []api.Block{{Name: "b", Col: 1, By: api.ByToken}}) || got.Matches[0].Terms[0].Col != 1 || !isEqual(got.Keeps, []api.Keep{{Col: 1, By: api.KeepLeast}}) || got.Rules[0].Col != 1 || got.Rules[0].OtherCol != 1 {
		t.Errorf("%s", show(got))
	}
}

// P10.1 (J3): an attribute has its present name, and then its former ones, for all but queries, which have the first one alone.
func TestFormerNames(t *testing.T) {
	// The table t has the attributes nick, formerly age, and name, ok, born.
	changes := []api.Change{drop("t", "nick"), rename("t", "age", "nick")}
	got := with(t, `block b on t.nick by exact; block c on t.age by exact; keep t.nick by least; unique k on t(name, age); unique l on t(name, nick);
depend d on t(nick) to name; depend e on t(age) to name; depend f on t(name) to age; query q = project(t on age);`, changes...)
	if !isEqual(got.Blocks, []api.Block{{Name: "b", Col: 1, By: api.ByExact}, {Name: "c", Col: 1, By: api.ByExact}}) || !isEqual(got.Keeps, []api.Keep{{Col: 1, By: api.KeepLeast}}) {
		t.Errorf("%s", show(got))
	}
	for i, want := range []api.Rule{{Kind: api.RuleUnique, Name: "k", Cols: []int{0, 1}}, {Kind: api.RuleUnique, Name: "l", Cols: []int{0, 1}}, {Kind: api.RuleDepend, Name: "d", Cols: []int{1}}, {Kind: api.RuleDepend, Name: "e", Cols: []int{1}}, {Kind: api.RuleDepend, Name: "f", Cols: []int{0}, Col: 1}} {
		if !isEqual(got.Rules[i], want) {
			t.Errorf("%v, not %v", got.Rules[i], want)
		}
	}
	if plan := got.Queries[0].Plan; !isEqual(plan.Kids[0].Attrs, attrs("name1 age2 born3 ok4")) || !isEqual(plan.Attrs, attrs("age2")) {
		t.Errorf("%s", show(plan))
	}
	for source, err := range map[string]api.Errno{
		"query q = project(t on nick);":                                                 api.ErrName,
		"query q = select(t where nick = \"x\");":                                       api.ErrName,
		"query q = project(t on age);":                                                  api.OK,
		"unique k on t(nick, age);":                                                     api.ErrTwice,
		"unique k on t(age, nick);":                                                     api.ErrTwice,
		"depend k on t(age, nick) to name;":                                             api.ErrTwice,
		"depend k on t(nick) to age;":                                                   api.ErrArg,
		"depend k on t(age) to nick;":                                                   api.ErrArg,
		"depend k on t(born) to name where age = 3, nick = \"x\";":                      api.ErrTwice,
		"depend k on t(born) to name where nick = \"x\", age = 3;":                      api.ErrType,
		"keep t.age by least; keep t.nick by most;":                                     api.ErrTwice,
		"keep t.nick by least; keep t.age by most;":                                     api.ErrTwice,
		"keep t.nick by longest;":                                                       api.ErrType,
		"match m on t at 1 { nick edit least 1 gives 1; }":                              api.ErrType,
		"match m on t at 1 { nick equal least 1 gives 1; age near 3 least 1 gives 1; }": api.OK,
		"deny d t x where x.nick = \"x\";":                                              api.ErrType,
		"deny d t x where x.age = 3;":                                                   api.OK,
		"include i t.nick in u.ref;":                                                    api.ErrType,
		"include i t.age in u.n;":                                                       api.OK,
	} {
		_, faults := resolve.With(base+source, changes)
		if err == api.OK && len(faults) > 0 || err != api.OK && (len(faults) != 1 || faults[0].Err != err) {
			t.Errorf("%s: faults %v, not %d", source, faults, err)
		}
	}
}

// P10.1 (J3): the first change that cannot be applied is a fault at -1; the faults of the text come before it, those that changes make come last.
func TestFaultsOfChanges(t *testing.T) {
	start := len(base)
	for _, test := range []struct {
		source  string
		changes []api.Change
		faults  []api.Fault
	}{
		{"", []api.Change{{}}, []api.Fault{{Err: api.ErrArg, At: -1}}},
		{"", []api.Change{{Kind: 5, Table: "t"}}, []api.Fault{{Err: api.ErrArg, At: -1}}},
		{"", []api.Change{drop("t", "name")}, []api.Fault{{Err: api.ErrArg, At: -1}}},
		{"", []api.Change{drop("v", "name")}, []api.Fault{{Err: api.ErrNone, At: -1}}},
		{"", []api.Change{rename("t", "age", "born")}, []api.Fault{{Err: api.ErrTwice, At: -1}}},
		{"", []api.Change{drop("t", "age"), drop("t", "age"), {}}, []api.Fault{{Err: api.ErrNone, At: -1}}},
		{"", []api.Change{drop("t", "age"), {}, drop("t", "age")}, []api.Fault{{Err: api.ErrArg, At: -1}}},
		{"", []api.Change{rename("t", "age", "x"), rename("t", "x", "age")}, []api.Fault{{Err: api.ErrTwice, At: -1}}},
		{"keep t.age by most;", []api.Change{drop("t", "age"), {}}, []api.Fault{{Err: api.ErrArg, At: -1}}},
		{"keep t.x by most;", []api.Change{{}}, []api.Fault{{Err: api.ErrName, At: start}}},
		{"keep t.x by most; unique k on v(x);", []api.Change{add("t", "x", api.KindText)}, []api.Fault{{Err: api.ErrName, At: start}, {Err: api.ErrName, At: start + 18}}},
		{"keep t.age by most;", []api.Change{drop("t", "age")}, []api.Fault{{Err: api.ErrName, At: start}}},
		{"keep t.age by most; keep u.n by least; query q = project(t on age);", []api.Change{drop("t", "age"), drop("t", "born")}, []api.Fault{{Err: api.ErrName, At: start}, {Err: api.ErrName, At: start + 49}}},
		{"query q = select(t where age < 3);", []api.Change{cast("t", "age", api.KindText)}, []api.Fault{{Err: api.ErrType, At: start + 10}}},
		{"include i t.age in u.n;", []api.Change{cast("u", "n", api.KindDay)}, []api.Fault{{Err: api.ErrType, At: start}}},
		{"include i t.age in u.n;", []api.Change{cast("u", "n", api.KindDay), cast("t", "age", api.KindDay)}, nil},
		{"keep t.age by most;", []api.Change{drop("t", "age"), add("t", "age", api.KindFlag)}, nil},
		{"union(t, t);", []api.Change{}, []api.Fault{{Err: api.ErrSyntax, At: start}}},
	} {
		got, faults := resolve.With(base+test.source, test.changes)
		want := api.Setup{}
		if len(test.faults) == 0 {
			want = got
		}
		check(t, fmt.Sprint(test.source, test.changes), got, faults, want, test.faults)
	}
}

// P10.1 (J3): tables that come behind other items change as well.
func TestWithTablesLast(t *testing.T) {
	changes := []api.Change{drop("t", "age"), rename("t", "nick", "x"), add("u", "y", api.KindFlag)}
	source := "source s trust 5; unique k on t(nick, born); query q = join(t, u); "
	got, faults := resolve.With(source+base, changes)
	check(t, source, got, faults, with(t, source, changes...), nil)
}
