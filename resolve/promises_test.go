package resolve_test

import (
	"fmt"
	"math"
	"math/rand/v2"
	"reflect"
	"slices"
	"strings"
	"testing"

	"cleanse/api"
	"cleanse/printer"
	"cleanse/resolve"
	"cleanse/schema"
	"cleanse/value"
)

// P10.1: random trees have the setups and the faults of the model.
func TestRandomTrees(t *testing.T) {
	r := maker{Rand: random()}
	counts := map[api.Errno]int{}
	good := 0
	for range 8000 {
		errs := checkModel(t, r.program(r.IntN(12)))
		for _, err := range errs {
			counts[err]++
		}
		if len(errs) == 0 {
			good++
		}
	}
	if good < 1000 || counts[api.ErrTwice] < 1000 || counts[api.ErrType] < 1000 {
		t.Errorf("%d without faults, errors %v", good, counts)
	}
}

// P10.1: random trees have every kind of item and of expression without a fault, so that the other tests of random trees find them.
func TestKindsOfRandomTrees(t *testing.T) {
	r := maker{Rand: random()}
	counts := map[string]int{}
	var visit func(p api.Plan)
	visit = func(p api.Plan) {
		counts[fmt.Sprint("expression ", p.Kind)]++
		for _, kid := range p.Kids {
			visit(kid)
		}
	}
	for range 3000 {
		s := resolved(t, r.good())
		counts["tables"] += len(s.Schema.Tables)
		counts["sources"] += len(s.Origins)
		for _, b := range s.Blocks {
			counts[fmt.Sprint("block ", b.By)]++
		}
		for _, m := range s.Matches {
			for _, w := range m.Terms {
				counts[fmt.Sprint("term ", w.Measure)]++
			}
		}
		for _, k := range s.Keeps {
			counts[fmt.Sprint("keep ", k.By)]++
		}
		for _, rule := range s.Rules {
			counts[fmt.Sprint("rule ", rule.Kind)]++
		}
		for _, q := range s.Queries {
			visit(q.Plan)
		}
	}
	if len(counts) != 2+4+5+6+4+8 {
		t.Errorf("only %v", counts)
	}
	for kind, count := range counts {
		if count < 50 {
			t.Errorf("%s: %d times", kind, count)
		}
	}
}

// good returns a random tree without faults, apart from which it may have lost items.
func (r *maker) good() api.Program {
	for {
		p := r.program(2 + r.IntN(12))
		_, faults := modelResolve(p)
		p.Items = slices.DeleteFunc(p.Items, func(x api.Item) bool { return isFaulty(x, faults) })
		if _, faults = modelResolve(p); len(faults) == 0 {
			return p
		}
	}
}

// resolved returns the setup of a tree that has one.
func resolved(t *testing.T, p api.Program) api.Setup {
	t.Helper()
	s, faults := resolve.Resolve(p)
	if len(faults) > 0 {
		t.Fatalf("%s: faults %v", show(p), faults)
	}
	return s
}

// damages returns other values for a place.
func damages(v reflect.Value) []any {
	switch v.Kind() {
	case reflect.Int:
		return []any{0, 1, -1, 2, 3, 4, 5, 6, 7, 8, 9, 10, 11, 24, 25, 64, 65, 100, 101, 1000, 1001, 10000, 10001, 73048, 73049, 1000000000, 1000000001, -1000000000, -1000000001, math.MaxInt, math.MinInt}
	case reflect.String:
		return []any{"", "a", "b", "c", "d", "e", "x", "y", "z", "1", "a b", longName, longName + "_", strings.Repeat("x", 200), strings.Repeat("x", 201)}
	case reflect.Bool:
		return []any{!v.Bool()}
	}
	n := v.Len()
	out := []any{v.Slice(0, 0).Interface(), reflect.MakeSlice(v.Type(), 1, 1).Interface()}
	if n > 0 {
		out = append(out, v.Slice(0, n-1).Interface(), v.Slice(1, n).Interface(), reflect.AppendSlice(v, v).Interface(), reflect.Append(v, reflect.Zero(v.Type().Elem())).Interface())
	}
	return out
}

// places returns all strings, numbers, truth values and slices within a value, apart from offsets.
func places(v reflect.Value) []reflect.Value {
	var out []reflect.Value
	switch v.Kind() {
	case reflect.Struct:
		for i := range v.NumField() {
			if v.Type().Field(i).Name != "At" {
				out = append(out, places(v.Field(i))...)
			}
		}
		return out
	case reflect.Slice:
		out = append(out, v)
		for i := range v.Len() {
			out = append(out, places(v.Index(i))...)
		}
		return out
	}
	return append(out, v)
}

// P10.1: trees without faults, with another value at each place, have the setups and the faults of the model.
func TestDamagesAtEachPlace(t *testing.T) {
	r := maker{Rand: random()}
	counts := map[api.Errno]int{}
	for range 15 {
		p := copied(r.good())
		for _, at := range places(reflect.ValueOf(&p).Elem()) {
			old := reflect.ValueOf(at.Interface())
			for _, other := range damages(at) {
				at.Set(reflect.ValueOf(other))
				for _, err := range checkModel(t, p) {
					counts[err]++
				}
			}
			at.Set(old)
		}
	}
	for _, err := range []api.Errno{api.ErrArg, api.ErrName, api.ErrTwice, api.ErrLimit, api.ErrRange, api.ErrType} {
		if counts[err] < 200 {
			t.Errorf("errors: %v", counts)
		}
	}
}

// P10.1: trees without faults, with other values at some places, have the setups and the faults of the model.
func TestDamagesAtSomePlaces(t *testing.T) {
	r := maker{Rand: random()}
	for range 6000 {
		p := copied(r.good())
		for range 1 + r.IntN(4) {
			at := pick(r.Rand, places(reflect.ValueOf(&p).Elem())...)
			at.Set(reflect.ValueOf(pick(r.Rand, damages(at)...)))
			p = copied(p)
		}
		checkModel(t, p)
	}
}

// P1: trees of any numbers, texts and lists have a setup or faults.
func TestAnyTrees(t *testing.T) {
	r := random()
	var fill func(v reflect.Value, depth int)
	fill = func(v reflect.Value, depth int) {
		switch v.Kind() {
		case reflect.Struct:
			for i := range v.NumField() {
				fill(v.Field(i), depth)
			}
		case reflect.Slice:
			n := r.IntN(3)
			if depth == 0 {
				n = 0
			}
			v.Set(reflect.MakeSlice(v.Type(), n, n))
			for i := range n {
				fill(v.Index(i), depth-1)
			}
		default:
			v.Set(reflect.ValueOf(pick(r, damages(v)...)))
		}
	}
	for range 5000 {
		x := api.Item{}
		fill(reflect.ValueOf(&x).Elem(), 3)
		checkModel(t, api.Program{Items: []api.Item{x, x}})
		x.Kind, x.Name = 1+r.IntN(10), "a"
		checkModel(t, after(x, x))
	}
}

// isIndex reports whether a number is an index of a list.
func isIndex(i, n int) bool { return i >= 0 && i < n }

// checkTests checks that tests are about columns of rows, and compare values of one kind.
func checkTests(t *testing.T, tests []api.Test, rows ...[]api.Attr) {
	t.Helper()
	kind := func(s api.Side) int {
		switch {
		case s.Var == -1:
			if s.Col != 0 || !value.Valid(s.Value) || s.Value.Kind == api.KindNull {
				t.Fatalf("%+v is no constant", s)
			}
			return s.Value.Kind
		case !isIndex(s.Var, len(rows)) || !isIndex(s.Col, len(rows[s.Var])) || s.Value != null:
			t.Fatalf("%+v is no column", s)
		}
		return rows[s.Var][s.Col].Kind
	}
	for _, test := range tests {
		left, right := kind(test.Left), kind(test.Right)
		if left != right || test.Left.Var == -1 && test.Right.Var == -1 || outside(test.Op, 1, 4) || outside(test.Add, -1000000000, 1000000000) {
			t.Fatalf("%+v", test)
		}
		if test.Add != 0 && left != api.KindNumber && left != api.KindDay {
			t.Fatalf("%+v adds to the kind %d", test, left)
		}
	}
}

// checkPlan checks that a plan has the kids, indices, tests and attributes of its kind, and nothing else.
func checkPlan(t *testing.T, s api.Schema, p api.Plan) {
	t.Helper()
	for _, kid := range p.Kids {
		checkPlan(t, s, kid)
	}
	want := api.Plan{Kind: p.Kind, Kids: p.Kids}
	if n := []int{-1, 0, 1, 1, 2, 2, 2, 1, 1}[p.Kind]; n != len(p.Kids) {
		t.Fatalf("%d kids of %s", len(p.Kids), show(p))
	}
	var first []api.Attr
	if len(p.Kids) > 0 {
		first = p.Kids[0].Attrs
	}
	for _, col := range slices.Concat(p.Cols, []int{max(p.Col, 0)}) {
		if !isIndex(col, len(first)) && (p.Kind == api.ExprRename || len(p.Cols) > 0) {
			t.Fatalf("the column %d of %s", col, show(p))
		}
	}
	switch p.Kind {
	case api.ExprTable:
		want.Table = p.Table
		for _, a := range s.Tables[p.Table].Attrs {
			want.Attrs = append(want.Attrs, api.Attr{Name: append(a.Was, a.Name)[0], Kind: a.Kind})
		}
	case api.ExprSelect:
		checkTests(t, p.Tests, first)
		want.Tests, want.Attrs = p.Tests, first
	case api.ExprProject:
		want.Cols = p.Cols
		for _, col := range p.Cols {
			want.Attrs = append(want.Attrs, first[col])
		}
	case api.ExprJoin:
		want.Attrs = slices.Clone(first)
		for _, a := range p.Kids[1].Attrs {
			if !slices.ContainsFunc(first, func(b api.Attr) bool { return isEqual(a, b) }) {
				want.Attrs = append(want.Attrs, a)
			}
		}
	case api.ExprUnion, api.ExprMinus:
		want.Attrs = p.Kids[1].Attrs
	case api.ExprRename:
		want.Col, want.Attrs = p.Col, slices.Clone(first)
		want.Attrs[p.Col].Name = p.Attrs[p.Col].Name
	case api.ExprGroup:
		want.Cols, want.Col, want.Agg = p.Cols, p.Col, p.Agg
		for _, col := range p.Cols {
			want.Attrs = append(want.Attrs, first[col])
		}
		want.Attrs = append(want.Attrs, groupResult(t, p, first))
	}
	if !isEqual(p, want) {
		t.Fatalf("%s, not\n%s", show(p), show(want))
	}
	for i, a := range p.Attrs {
		if slices.ContainsFunc(p.Attrs[:i], func(b api.Attr) bool { return a.Name == b.Name }) {
			t.Fatalf("two attributes %s of %s", a.Name, show(p))
		}
	}
}

// groupResult returns the last attribute of a group.
func groupResult(t *testing.T, p api.Plan, first []api.Attr) api.Attr {
	t.Helper()
	out := api.Attr{Name: p.Attrs[len(p.Attrs)-1].Name, Kind: api.KindNumber}
	if p.Agg == api.AggCount {
		if p.Col != -1 {
			t.Fatalf("a count of the column %d", p.Col)
		}
		return out
	}
	if !isIndex(p.Col, len(first)) || p.Agg == api.AggSum && first[p.Col].Kind != api.KindNumber {
		t.Fatalf("%s", show(p))
	}
	out.Kind = first[p.Col].Kind
	return out
}

// checkWellFormed checks that the schema of a setup is valid, and that everything else is about it.
func checkWellFormed(t *testing.T, s api.Setup) {
	t.Helper()
	if !schema.Valid(s.Schema) {
		t.Fatalf("%s is not valid", show(s.Schema))
	}
	attrs := func(table int) []api.Attr {
		if !isIndex(table, len(s.Schema.Tables)) {
			t.Fatalf("the table %d of %s", table, show(s))
		}
		return s.Schema.Tables[table].Attrs
	}
	column := func(table, col int) api.Attr {
		if !isIndex(col, len(attrs(table))) {
			t.Fatalf("the column %d of the table %d of %s", col, table, show(s))
		}
		return attrs(table)[col]
	}
	for _, b := range s.Blocks {
		column(b.Table, b.Col)
	}
	for _, m := range s.Matches {
		for _, w := range m.Terms {
			column(m.Table, w.Col)
		}
	}
	for _, k := range s.Keeps {
		column(k.Table, k.Col)
	}
	for _, rule := range s.Rules {
		for _, col := range append(rule.Cols, rule.Col) {
			column(rule.Table, col)
		}
		for _, f := range rule.Fixed {
			if column(rule.Table, f.Col).Kind != f.Value.Kind {
				t.Fatalf("%+v", rule)
			}
		}
		if rule.Kind == api.RuleInclude && column(rule.Table, rule.Col).Kind != column(rule.Other, rule.OtherCol).Kind {
			t.Fatalf("%+v", rule)
		}
		var rows [][]api.Attr
		for _, table := range rule.Tables {
			rows = append(rows, attrs(table))
		}
		checkTests(t, rule.Tests, rows...)
	}
	for _, q := range s.Queries {
		checkPlan(t, s.Schema, q.Plan)
	}
}

// P10.2, P10.7: the schema of a setup is valid, all indices are those of something, and tests and attributes have the right kinds.
func TestWellFormed(t *testing.T) {
	r := maker{Rand: random()}
	for range 3000 {
		checkWellFormed(t, resolved(t, r.good()))
	}
	checkWellFormed(t, compiled(t, rest))
	checkWellFormed(t, with(t, rest, rename("t", "age", "years"), add("u", "x", api.KindDay)))
	eachChanged(func(_ string, _ []api.Change, got api.Setup, _ []api.Fault) { checkWellFormed(t, got) })
}

// sorts returns the items of a tree by their sorts.
func sorts(p api.Program) [][]api.Item {
	out := make([][]api.Item, 7)
	for _, x := range p.Items {
		i := []int{6, 0, 1, 2, 3, 4, 5, 5, 5, 5, 6}[x.Kind]
		out[i] = append(out[i], x)
	}
	return out
}

// P10.3: items of different sorts can be moved past one another. Each keeps its fault.
func TestOrder(t *testing.T) {
	r := maker{Rand: random()}
	for range 3000 {
		p := r.program(r.IntN(12))
		want, wanted := resolve.Resolve(p)
		moved := api.Program{Items: mixed(r.Rand, sorts(p)...)}
		got, faults := resolve.Resolve(moved)
		slices.SortFunc(faults, func(a, b api.Fault) int { return a.At/1000 - b.At/1000 })
		check(t, moved, got, faults, want, wanted)
		p = r.good()
		for range 3 {
			moved = api.Program{Items: mixed(r.Rand, sorts(p)...)}
			got, faults = resolve.Resolve(moved)
			check(t, moved, got, faults, resolved(t, p), nil)
		}
	}
	items := parse(rest).Items
	tables := parse(base).Items
	want := compiled(t, rest)
	for range 300 {
		moved := api.Program{Items: mixed(r.Rand, append(sorts(api.Program{Items: items}), tables)...)}
		got, faults := resolve.Resolve(moved)
		check(t, moved, got, faults, want, nil)
	}
}

// P10.3: items of one sort in another order are in this order in the setup.
func TestOrderWithinSorts(t *testing.T) {
	x := parse("source a trust 1; source b trust 2; block a on t.age by exact; block b on u.n by exact; keep t.age by most; keep u.n by least; unique a on t(age); unique b on u(n); query a = t; query b = u;").Items
	forth, _ := resolve.Resolve(after(x...))
	slices.Reverse(x)
	back, _ := resolve.Resolve(after(x...))
	for _, list := range []any{back.Origins, back.Blocks, back.Keeps, back.Rules, back.Queries} {
		v := reflect.ValueOf(list)
		if v.Len() != 2 {
			t.Errorf("%v", list)
		}
		reflect.Swapper(list)(0, 1)
	}
	if !isEqual(forth, back) {
		t.Errorf("%s, not %s", show(back), show(forth))
	}
}

// renamed returns a tree with other names for all that has a name but attributes, and for what refers to it.
func renamed(p api.Program, other func(sort, name string) string) api.Program {
	p = copied(p)
	var expr func(x *api.Expr)
	expr = func(x *api.Expr) {
		if x.Kind == api.ExprTable {
			x.Table = other("table", x.Table)
		}
		for i := range x.Kids {
			expr(&x.Kids[i])
		}
	}
	for i := range p.Items {
		x := &p.Items[i]
		sort := []string{"", "table", "source", "block", "match", "", "rule", "rule", "rule", "rule", "query"}[x.Kind]
		if x.Kind != api.ItemKeep {
			x.Name = other(sort, x.Name)
		}
		x.Table, x.Other = other("table", x.Table), other("table", x.Other)
		for k := range x.Vars {
			x.Vars[k] = api.Var{Name: other("variable", x.Vars[k].Name), Table: other("table", x.Vars[k].Table)}
		}
		for k := range x.Conds {
			for _, o := range []*api.Operand{&x.Conds[k].Left, &x.Conds[k].Right} {
				if !o.Const {
					o.Var = other("variable", o.Var)
				}
			}
		}
		expr(&x.Expr)
	}
	return p
}

// P10.4: other names matter only for what has them.
func TestOtherNames(t *testing.T) {
	r := maker{Rand: random()}
	for range 3000 {
		p := r.program(r.IntN(12))
		if r.IntN(2) == 0 {
			p = r.good()
		}
		want, wanted := resolve.Resolve(p)
		other := func(sort, name string) string { return "n" + strings.ToUpper(name) + sort }
		rename := func(sort string, name *string) { *name = other(sort, *name) }
		for i := range want.Schema.Tables {
			rename("table", &want.Schema.Tables[i].Name)
		}
		for i := range want.Origins {
			rename("source", &want.Origins[i].Name)
		}
		for i := range want.Blocks {
			rename("block", &want.Blocks[i].Name)
		}
		for i := range want.Matches {
			rename("match", &want.Matches[i].Name)
		}
		for i := range want.Rules {
			rename("rule", &want.Rules[i].Name)
		}
		for i := range want.Queries {
			rename("query", &want.Queries[i].Name)
		}
		got, faults := resolve.Resolve(renamed(p, other))
		check(t, p, got, faults, want, wanted)
	}
}

// P10.5: each item has at most one fault, and those without one have none if the others are removed.
func TestFaultsOfItems(t *testing.T) {
	r := maker{Rand: random()}
	count := 0
	for range 5000 {
		p := r.program(r.IntN(12))
		p.Items = slices.Concat(slices.DeleteFunc(slices.Clone(p.Items), func(x api.Item) bool { return x.Kind != api.ItemTable }), slices.DeleteFunc(p.Items, func(x api.Item) bool { return x.Kind == api.ItemTable }))
		p = placed(p.Items)
		_, faults := resolve.Resolve(p)
		for i, f := range faults {
			if i > 0 && f.At/1000 <= faults[i-1].At/1000 || !isIndex(f.At/1000, len(p.Items)) {
				t.Fatalf("%s: faults %v", show(p), faults)
			}
		}
		if slices.ContainsFunc(p.Items, func(x api.Item) bool { return x.Kind == api.ItemTable && isFaulty(x, faults) }) {
			continue
		}
		count += len(faults)
		p.Items = slices.DeleteFunc(p.Items, func(x api.Item) bool { return isFaulty(x, faults) })
		resolved(t, p)
	}
	if count < 1000 {
		t.Errorf("only %d faults", count)
	}
}

// change returns a random change of a schema.
func (r *maker) change(s api.Schema) api.Change {
	table := pick(r.Rand, s.Tables...)
	a := pick(r.Rand, table.Attrs...)
	name := pick(r.Rand, a.Name, append(a.Was, a.Name)[0])
	switch r.IntN(4) {
	case 0:
		kind := 1 + r.IntN(4)
		return api.Change{Kind: api.ChangeAdd, Table: table.Name, Name: r.name(), To: kind, Default: r.value(pick(r.Rand, 0, kind))}
	case 1:
		return drop(table.Name, name)
	case 2:
		return rename(table.Name, name, r.name())
	}
	return cast(table.Name, name, 1+r.IntN(4))
}

// source returns the text of a tree.
func source(p api.Program) string {
	out, err := printer.Print(p)
	if err != api.OK {
		panic(fmt.Sprintf("%s: error %d", show(p), err))
	}
	return out
}

// eachChanged calls a function with many texts and changes, and with what With returns for them.
func eachChanged(use func(text string, changes []api.Change, got api.Setup, faults []api.Fault)) {
	r := maker{Rand: random()}
	for range 2000 {
		text := source(r.good())
		s, _ := resolve.Compile(text)
		var changes []api.Change
		now := s.Schema
		for range r.IntN(5) {
			c := r.change(now)
			after, err := schema.Apply(now, c)
			if err == api.OK {
				now = after
			}
			if err == api.OK || r.IntN(20) == 0 {
				changes = append(changes, c)
			}
		}
		got, faults := resolve.With(text, changes)
		use(text, changes, got, faults)
	}
}

// modelWith returns what With should return for a text that has no faults.
func modelWith(text string, changes []api.Change) (api.Setup, []api.Fault) {
	p := parse(text)
	s, _ := modelResolve(p)
	for _, c := range changes {
		after, err := schema.Apply(s.Schema, c)
		if err != api.OK {
			return api.Setup{}, []api.Fault{{Err: err, At: -1}}
		}
		s.Schema = after
	}
	return modelItems(p, s.Schema.Tables, true)
}

// P10.1 (J3): random texts have the setups and the faults of the model after random changes.
func TestRandomChanges(t *testing.T) {
	counts := map[string]int{}
	eachChanged(func(text string, changes []api.Change, got api.Setup, faults []api.Fault) {
		want, wanted := modelWith(text, changes)
		check(t, fmt.Sprint(text, changes), got, faults, want, wanted)
		switch {
		case len(faults) == 0:
			counts["setups"]++
		case faults[0].At < 0:
			counts["changes"]++
		default:
			counts["faults"]++
		}
	})
	if counts["setups"] < 150 || counts["changes"] < 50 || counts["faults"] < 150 {
		t.Errorf("%v", counts)
	}
}

// P10.6: after a change that renames an attribute everything but the schema is the same.
func TestRenaming(t *testing.T) {
	r := maker{Rand: random()}
	for range 2000 {
		text := source(r.good())
		want, _ := resolve.Compile(text)
		var changes []api.Change
		for range 1 + r.IntN(4) {
			c := r.change(want.Schema)
			for c.Kind != api.ChangeRename {
				c = r.change(want.Schema)
			}
			after, err := schema.Apply(want.Schema, c)
			if err == api.OK {
				want.Schema, changes = after, append(changes, c)
			}
		}
		got, faults := resolve.With(text, changes)
		check(t, fmt.Sprint(text, changes), got, faults, want, nil)
	}
	for _, changes := range [][]api.Change{{rename("t", "age", "years")}, {rename("t", "name", "x"), rename("u", "n", "name"), rename("t", "x", "y"), rename("t", "nick", "z")}} {
		want := compiled(t, rest)
		want.Schema = changed(t, changes...)
		if got := with(t, rest, changes...); !isEqual(got, want) {
			t.Errorf("%s, not\n%s", show(got), show(want))
		}
	}
}

// names reports whether a plan has a table in it.
func names(p api.Plan, table int) bool {
	return p.Kind == api.ExprTable && p.Table == table || slices.ContainsFunc(p.Kids, func(kid api.Plan) bool { return names(kid, table) })
}

// P10.8: after a change that adds an attribute to a table everything is the same but the schema and plans with this table, or queries have faults.
func TestFurtherAttributes(t *testing.T) {
	r := maker{Rand: random()}
	counts := map[bool]int{}
	for range 3000 {
		text := source(r.good())
		before, _ := resolve.Compile(text)
		c := api.Change{Kind: api.ChangeAdd, Table: pick(r.Rand, before.Schema.Tables...).Name, Name: r.name(), To: 1 + r.IntN(4)}
		after, err := schema.Apply(before.Schema, c)
		if err != api.OK {
			continue
		}
		got, faults := resolve.With(text, []api.Change{c})
		counts[len(faults) == 0]++
		for _, f := range faults {
			if at := strings.LastIndex(text[:f.At], "\n") + 1; !strings.HasPrefix(text[at:], "query ") {
				t.Fatalf("%s: %+v has the fault %v", text, c, f)
			}
		}
		if len(faults) > 0 {
			continue
		}
		want := before
		want.Schema, want.Queries = after, slices.Clone(before.Queries)
		for i, q := range want.Queries {
			if names(q.Plan, schema.Find(after, c.Table)) {
				checkPlan(t, after, got.Queries[i].Plan)
				want.Queries[i] = api.Query{Name: q.Name, Plan: got.Queries[i].Plan}
			}
		}
		check(t, fmt.Sprint(text, c), got, nil, want, nil)
	}
	if counts[true] < 500 || counts[false] < 20 {
		t.Errorf("%v", counts)
	}
}

// P10.8: an attribute that is added is in a plan as far as all attributes of the table are.
func TestFurtherAttributesOfPlans(t *testing.T) {
	got := with(t, "query q = project(t on age); query r = join(u, t); query s = group(t on ok with count as n);", add("t", "x", api.KindDay)).Queries
	all := ofT + " x3"
	for i, want := range []string{"age2", ofU + " " + all, "ok4 n2"} {
		if !isEqual(got[i].Plan.Attrs, attrs(want)) {
			t.Errorf("%s", show(got[i]))
		}
	}
	if !isEqual(got[0].Plan.Kids[0].Attrs, attrs(all)) {
		t.Errorf("%s", show(got[0]))
	}
	start := len(base)
	for source, want := range map[string]api.Fault{
		"query q = join(t, rename(u, n as x));":                        {Err: api.ErrType, At: start + 10},
		"query q = union(t, project(t on name, age, born, ok, nick));": {Err: api.ErrType, At: start + 10},
		"query q = rename(t, age as x);":                               {Err: api.ErrTwice, At: start + 10},
	} {
		_, faults := resolve.With(base+source, []api.Change{add("t", "x", api.KindDay)})
		if !isEqual(faults, []api.Fault{want}) {
			t.Errorf("%s: %v", source, faults)
		}
	}
}

// results returns what the functions return for many arguments.
func results() string {
	r := maker{Rand: rand.New(rand.NewPCG(3, 3))}
	var out strings.Builder
	for range 200 {
		s, faults := resolve.Resolve(r.program(r.IntN(12)))
		fmt.Fprintf(&out, "%#v %v\n", s, faults)
		text := source(r.good())
		s, faults = resolve.Compile(text)
		fmt.Fprintf(&out, "%#v %v\n", s, faults)
		s, faults = resolve.With(text, []api.Change{r.change(s.Schema), r.change(s.Schema)})
		fmt.Fprintf(&out, "%#v %v\n", s, faults)
	}
	return out.String()
}

// P3: calls with equal arguments have equal results, whatever was called in between.
func TestIndependence(t *testing.T) {
	first := results()
	for range 3 {
		if results() != first {
			t.Fatal("the results change")
		}
	}
}

// P3: an empty slice is as good as none.
func TestEmptySlices(t *testing.T) {
	r := maker{Rand: random()}
	for range 1000 {
		p := r.program(r.IntN(12))
		want, wanted := resolve.Resolve(p)
		p = copied(p)
		for _, at := range places(reflect.ValueOf(&p).Elem()) {
			if at.Kind() == reflect.Slice && at.Len() == 0 {
				at.Set(reflect.MakeSlice(at.Type(), 0, 2))
			}
		}
		got, faults := resolve.Resolve(p)
		check(t, p, got, faults, want, wanted)
	}
}
