package resolve_test

import (
	"fmt"
	"math"
	"reflect"
	"slices"
	"strings"
	"testing"

	"cleanse/api"
	"cleanse/resolve"
)

// wide returns a table with so many columns of a kind, whose names begin with a text.
func wide(name, prefix string, n, kind int) api.Item {
	x := api.Item{Kind: api.ItemTable, Name: name, Names: []string{prefix + "0"}}
	for i := range n {
		x.Columns = append(x.Columns, api.Column{Name: fmt.Sprint(prefix, i), Kind: kind})
	}
	return x
}

// many returns so many items with different names, made of one.
func many(x api.Item, n int) []api.Item {
	var out []api.Item
	for i := range n {
		out = append(out, named(x, fmt.Sprint("n", i)))
	}
	return out
}

// faultsFrom returns faults with one error, ten offsets apart.
func faultsFrom(err api.Errno, at, n int) []api.Fault {
	var out []api.Fault
	for i := range n {
		out = append(out, api.Fault{Err: err, At: at + 10*i})
	}
	return out
}

// P10.1: a program has at most 20 tables without a fault. Those behind them are not there; those with a fault do not count.
func TestNumberOfTables(t *testing.T) {
	tables := many(wide("", "a", 2, api.KindText), 23)
	checkFaults(t, program(tables[:19]...))
	checkFaults(t, program(tables[:20]...))
	checkFaults(t, program(tables[:21]...), faultsFrom(api.ErrLimit, 200, 1)...)
	checkFaults(t, program(tables...), faultsFrom(api.ErrLimit, 200, 3)...)
	got, faults := resolve.Resolve(program(tables[:20]...))
	if len(faults) > 0 || len(got.Schema.Tables) != 20 || got.Schema.Tables[19].Name != "n19" {
		t.Errorf("%s", show(got))
	}
	unique := func(table string) api.Item {
		return api.Item{Kind: api.ItemUnique, Name: "u", Table: table, Names: []string{"a1"}}
	}
	checkFaults(t, program(append(tables[:20:20], unique("n19"))...))
	checkFaults(t, program(append(tables[:21:21], unique("n20"))...), api.Fault{Err: api.ErrLimit, At: 200}, api.Fault{Err: api.ErrName, At: 210})
	faulty, _ := spoiled(wide("x", "a", 2, api.KindText))
	checkFaults(t, program(append([]api.Item{faulty}, tables[:20]...)...), api.Fault{Err: api.ErrName})
	checkFaults(t, program(append([]api.Item{faulty}, tables[:21]...)...), api.Fault{Err: api.ErrName}, api.Fault{Err: api.ErrLimit, At: 210})
	// The name comes before the limit.
	checkFaults(t, program(append(tables[:20:20], tables[3])...), api.Fault{Err: api.ErrTwice, At: 200})
	checkFaults(t, program(append(tables[:20:20], named(tables[3], ""))...), api.Fault{Err: api.ErrArg, At: 200})
	// Tables beyond the limit use their names.
	checkFaults(t, program(append(tables[:21:21], tables[20])...), api.Fault{Err: api.ErrLimit, At: 200}, api.Fault{Err: api.ErrTwice, At: 210})
}

// P10.1: a table has from 1 to 12 columns.
func TestNumberOfColumns(t *testing.T) {
	for n := range 16 {
		want := api.OK
		if n < 1 || n > 12 {
			want = api.ErrLimit
		}
		checkFault(t, wide("v", "a", n, api.KindDay), want)
		// The limit comes before the faults of columns.
		x := wide("v", "a", n, api.KindDay)
		x.Columns = append(x.Columns, api.Column{})
		if want = api.ErrArg; n > 11 {
			want = api.ErrLimit
		}
		checkFault(t, x, want)
	}
}

// P10.1: a program has at most 64 sources without a fault; those with a fault do not count.
func TestNumberOfOrigins(t *testing.T) {
	sources := many(item("source s trust 7;"), 67)
	checkFaults(t, program(sources[:63]...))
	checkFaults(t, program(sources[:64]...))
	checkFaults(t, program(sources[:65]...), faultsFrom(api.ErrLimit, 640, 1)...)
	checkFaults(t, program(sources...), faultsFrom(api.ErrLimit, 640, 3)...)
	faulty := item("source x trust 101;")
	checkFaults(t, program(append([]api.Item{faulty}, sources[:64]...)...), api.Fault{Err: api.ErrRange})
	checkFaults(t, program(append([]api.Item{faulty}, sources[:65]...)...), api.Fault{Err: api.ErrRange}, api.Fault{Err: api.ErrLimit, At: 650})
	// The limit comes before the range, and the name before both.
	checkFaults(t, program(append(sources[:64:64], faulty)...), api.Fault{Err: api.ErrLimit, At: 640})
	checkFaults(t, program(append(sources[:64:64], named(faulty, "n0"))...), api.Fault{Err: api.ErrTwice, At: 640})
	// Other items have no such limit.
	for _, source := range []string{"block b on t.name by exact;", "match m on t at 1 { age equal least 1 gives 1; }", "unique k on t(age);", "include i t.age in u.n;", "query q = t;"} {
		checkFaults(t, after(many(item(source), 198)...))
	}
}

// P10.1: keeps with a fault do not count for others.
func TestKeepsWithFaults(t *testing.T) {
	good := item("keep t.age by least;")
	for _, change := range []func(x *api.Item){func(x *api.Item) { x.By = 0 }, func(x *api.Item) { x.By = api.KeepLongest }} {
		bad := good
		change(&bad)
		_, faults := resolve.Resolve(after(bad, good, good))
		if len(faults) != 2 || faults[0].At != 20 || faults[1] != (api.Fault{Err: api.ErrTwice, At: 40}) {
			t.Errorf("faults %v", faults)
		}
	}
	checkFaults(t, after(good, item("keep t.born by least;"), item("keep u.n by least;"), item("keep u.ref by least;")))
	checkFaults(t, after(good, good, good), faultsFrom(api.ErrTwice, 30, 2)...)
}

// P10.1: tables with a fault are not found, also if an item before or behind them names them.
func TestTablesWithFaults(t *testing.T) {
	bad := item("table v(a text, b number, b day) key a;")
	for _, source := range []string{"block b on v.a by exact;", "match m on v at 1 { a equal least 1 gives 1; }", "keep v.a by most;", "unique k on v(a);", "depend k on v(a) to b;", "include k v.a in t.name;", "include k t.name in v.a;", "deny k t x, v y where x.age = 3;", "query q = v;", "query q = join(t, v);"} {
		x := item(source)
		setOffsets(&x.Expr, 30)
		checkFaults(t, after(bad, x), api.Fault{Err: api.ErrTwice, At: 20}, api.Fault{Err: api.ErrName, At: 30})
		setOffsets(&x.Expr, 20)
		checkFaults(t, after(x, bad), api.Fault{Err: api.ErrName, At: 20}, api.Fault{Err: api.ErrTwice, At: 30})
		// A table that is not there leaves its name to none.
		good := item("table v(a text, b number) key a;")
		checkFaults(t, after(x, bad, good), api.Fault{Err: api.ErrName, At: 20}, api.Fault{Err: api.ErrTwice, At: 30}, api.Fault{Err: api.ErrTwice, At: 40})
		checkFaults(t, after(x, good))
		// Of two tables with a name the first one is there.
		checkFaults(t, after(x, good, item("table v(c text) key c;")), api.Fault{Err: api.ErrTwice, At: 40})
	}
}

// P10.1: a match has from 1 to 12 terms.
func TestNumberOfTerms(t *testing.T) {
	x := item("match m on t at 1 { age equal least 1 gives 1; }")
	for n := range 16 {
		many := x
		many.Terms = slices.Repeat(x.Terms, n)
		want := api.OK
		if n < 1 || n > 12 {
			want = api.ErrLimit
		}
		checkFault(t, many, want)
	}
}

// P10.1: a deny has from 1 to 3 variables and from 1 to 12 conditions.
func TestNumbersOfDenies(t *testing.T) {
	for n := range 6 {
		for k := range 15 {
			x := api.Item{Kind: api.ItemDeny, Name: "d"}
			for i := range n {
				x.Vars = append(x.Vars, api.Var{Name: fmt.Sprint("x", i), Table: "t"})
			}
			for i := range k {
				x.Conds = append(x.Conds, cond(of(fmt.Sprint("x", i%max(n, 1)), "age"), constant(number(i))))
			}
			want := api.OK
			if n < 1 || n > 3 || k < 1 || k > 12 {
				want = api.ErrLimit
			}
			checkFault(t, x, want)
		}
	}
}

// P10.1: a select has from 1 to 12 conditions.
func TestNumberOfConditions(t *testing.T) {
	for n := range 16 {
		x := api.Expr{Kind: api.ExprSelect, Kids: []api.Expr{relation("t")}, At: 20, Conds: slices.Repeat([]api.Cond{cond(attr("age"), constant(number(1)))}, n)}
		want := api.OK
		if n < 1 || n > 12 {
			want = api.ErrLimit
		}
		checkFault(t, query(x), want)
	}
}

// P10.1: a join has at most 24 attributes, of which those that both kids have count once. A group may have more.
func TestAttributesOfJoins(t *testing.T) {
	tables := []api.Item{wide("a", "a", 12, api.KindText), wide("b", "b", 12, api.KindText), wide("c", "c", 1, api.KindText), wide("d", "a", 12, api.KindDay)}
	var names []string
	for i := range 12 {
		names = append(names, fmt.Sprint("a", i), fmt.Sprint("b", i))
	}
	list := strings.Join(names, ", ")
	for source, want := range map[string]api.Fault{
		"join(a, b)":                   {},
		"join(b, a)":                   {},
		"join(join(a, b), a)":          {},
		"join(join(a, b), join(b, a))": {},
		"join(join(a, b), c)":          {Err: api.ErrLimit, At: 10},
		"join(c, join(a, b))":          {Err: api.ErrLimit, At: 10},
		"join(a, join(b, c))":          {Err: api.ErrLimit, At: 10},
		"join(a, join(project(b on b0, b1, b2, b3, b4, b5, b6, b7, b8, b9, b10), c))": {},
		"join(join(join(a, b), c), v)":                                           {Err: api.ErrLimit, At: 15},
		"join(join(a, b), d)":                                                    {Err: api.ErrType, At: 10},
		"join(d, join(a, b))":                                                    {Err: api.ErrType, At: 10},
		"join(c, join(join(b, d), a))":                                           {Err: api.ErrType, At: 18},
		"group(join(a, b) on " + list + " with count as n)":                      {},
		"join(group(join(a, b) on " + list + " with count as n), a)":             {Err: api.ErrLimit, At: 10},
		"join(project(a on), group(join(a, b) on " + list + " with count as n))": {Err: api.ErrLimit, At: 10},
		"union(group(join(a, b) on " + list + " with count as n), group(join(a, b) on " + list + " with count as n))": {},
	} {
		_, faults := resolve.Resolve(program(append(tables, item("query q = "+source+";"))...))
		if want == (api.Fault{}) && len(faults) > 0 || want != (api.Fault{}) && !isEqual(faults, []api.Fault{want}) {
			t.Errorf("%s: faults %v, not %v", source, faults, want)
		}
	}
}

// joined returns tables of which a join has more attributes than permitted and one that has another kind in both.
func joined() api.Program {
	a, b, c := wide("a", "a", 12, api.KindText), wide("b", "b", 12, api.KindText), wide("c", "c", 12, api.KindText)
	c.Columns[11] = api.Column{Name: "a11", Kind: api.KindDay}
	return program(a, b, c, item("query q = join(join(a, b), c);"))
}

// P10.1: other kinds come before too many attributes.
func TestKindsBeforeAttributes(t *testing.T) {
	checkFaults(t, joined(), api.Fault{Err: api.ErrType, At: 10})
}

// operations returns each kind of expression with kids, over expressions with the attributes of the table t, which it has as well.
func operations(a, b api.Expr) []api.Expr {
	return []api.Expr{
		{Kind: api.ExprSelect, Kids: []api.Expr{a}, Conds: []api.Cond{cond(attr("age"), constant(number(1)))}},
		{Kind: api.ExprProject, Kids: []api.Expr{a}, Names: []string{"name", "age", "born", "ok", "nick"}},
		{Kind: api.ExprJoin, Kids: []api.Expr{a, b}},
		{Kind: api.ExprUnion, Kids: []api.Expr{a, b}},
		{Kind: api.ExprMinus, Kids: []api.Expr{a, b}},
		{Kind: api.ExprRename, Kids: []api.Expr{a}, Attr: "age", As: "age"},
		{Kind: api.ExprGroup, Kids: []api.Expr{a}, Names: []string{"name", "age", "born", "ok"}, Agg: api.AggLeast, Attr: "nick", As: "nick"},
	}
}

// nested returns the expressions of so many levels by each operation, in each of its kids, with offsets that are their levels from the innermost one on.
func nested(levels int, inner api.Expr) []api.Expr {
	var out []api.Expr
	for i, operation := range operations(relation("t"), relation("t")) {
		for kid := range operation.Kids {
			x := inner
			for level := range levels - 1 {
				pair := [2]api.Expr{relation("t"), relation("t")}
				pair[kid] = x
				x = operations(pair[0], pair[1])[i]
				x.At = level + 2
			}
			out = append(out, x)
		}
	}
	return out
}

// P10.1: an expression has at most 12 levels, by each operation and in each of its kids. The fault is that of the first one with more.
func TestLevels(t *testing.T) {
	inner := relation("t")
	inner.At = 1
	for levels := 1; levels <= 30; levels++ {
		for _, x := range nested(levels, inner) {
			if levels <= 12 {
				checkFaults(t, after(query(x)))
				continue
			}
			checkFaults(t, after(query(x)), api.Fault{Err: api.ErrLimit, At: 13})
			// Faults of the innermost levels come first, those of the outermost ones do not matter.
			for part, at := &x, levels; at > 1; part, at = deepest(part), at-1 {
				kind := part.Kind
				part.Kind = 9
				want := api.Fault{Err: api.ErrLimit, At: 13}
				if at < 13 {
					want = api.Fault{Err: api.ErrArg, At: at}
				}
				checkFaults(t, after(query(x)), want)
				part.Kind = kind
			}
		}
	}
}

// deepest returns the kid of an expression that has the greater offset, or the last one.
func deepest(x *api.Expr) *api.Expr {
	out := &x.Kids[0]
	for i := range x.Kids {
		if x.Kids[i].At >= out.At {
			out = &x.Kids[i]
		}
	}
	return out
}

// P10.1: levels are those of the deeper kid, and a fault of an earlier kid comes before the limit of a later one.
func TestLevelsOfSeveral(t *testing.T) {
	for _, a := range []int{1, 5, 11, 12, 13, 20} {
		for _, b := range []int{1, 5, 11, 12, 13, 20} {
			first, second := nested(a, relation("t"))[0], nested(b, relation("t"))[0]
			x := api.Expr{Kind: api.ExprJoin, Kids: []api.Expr{first, second}, At: 500}
			switch {
			case a > 12 || b > 12:
				checkFaults(t, after(query(x)), api.Fault{Err: api.ErrLimit, At: 13})
			case a == 12 || b == 12:
				checkFaults(t, after(query(x)), api.Fault{Err: api.ErrLimit, At: 500})
			default:
				checkFaults(t, after(query(x)))
			}
			bad := api.Expr{Kind: api.ExprTable, Table: "v", At: 600}
			checkFaults(t, after(query(api.Expr{Kind: api.ExprUnion, Kids: []api.Expr{bad, second}})), api.Fault{Err: api.ErrName, At: 600})
			want := api.Fault{Err: api.ErrName, At: 600}
			if a > 12 {
				want = api.Fault{Err: api.ErrLimit, At: 13}
			}
			checkFaults(t, after(query(api.Expr{Kind: api.ExprUnion, Kids: []api.Expr{first, bad, second}})), want)
		}
	}
	// The limit of levels comes before a wrong kind and a wrong number of kids, and behind the faults of kids.
	for _, kind := range []int{0, api.ExprTable, api.ExprSelect, api.ExprJoin, 9} {
		for levels := 10; levels <= 12; levels++ {
			kid := nested(levels, relation("t"))[0]
			x := api.Expr{Kind: kind, Kids: []api.Expr{kid, kid, kid}, At: 500}
			want := api.ErrArg
			if levels == 12 {
				want = api.ErrLimit
			}
			checkFaults(t, after(query(x)), api.Fault{Err: want, At: 500})
			x.Kids[2].Kind, x.Kids[2].At = 0, 700
			checkFaults(t, after(query(x)), api.Fault{Err: api.ErrArg, At: 700})
		}
	}
}

// P10.1: a text has at most 12 levels as well, by the parser.
func TestLevelsOfTexts(t *testing.T) {
	for n := 1; n <= 14; n++ {
		source := "query q = " + strings.Repeat("project(", n-1) + "t" + strings.Repeat(" on age)", n-1) + ";"
		_, faults := resolve.Compile(base + source)
		if n <= 12 && len(faults) > 0 || n > 12 && !isEqual(faults, []api.Fault{{Err: api.ErrLimit, At: len(base) + 10 + 8*12}}) {
			t.Errorf("%d levels: %v", n, faults)
		}
	}
}

// chain returns an expression of so many levels by a binary operation in one of its kids, in which each has its level as its offset.
func chain(kind, kid, levels int, inner api.Expr) api.Expr {
	x := inner
	x.At = 1
	for level := range levels - 1 {
		pair := []api.Expr{relation("t"), relation("t")}
		pair[kid] = x
		x = api.Expr{Kind: kind, Kids: pair, At: level + 2}
	}
	return x
}

// checkBig checks the only fault of a query that is too big to be shown.
func checkBig(t *testing.T, x api.Expr, want api.Fault) {
	t.Helper()
	got, faults := resolve.Resolve(after(query(x)))
	if len(faults) != 1 || faults[0] != want || !isEqual(got, api.Setup{}) {
		t.Errorf("faults %v, not %v", faults, want)
	}
}

// P1: an expression may have more levels than calls can be nested.
func TestManyLevels(t *testing.T) {
	for _, levels := range []int{1 << 10, 1 << 16, 1<<17 + 1} {
		for kid := range 2 {
			x := chain(api.ExprJoin, kid, levels, relation("t"))
			checkBig(t, x, api.Fault{Err: api.ErrLimit, At: 13})
			x.Kids[1-kid] = api.Expr{Kind: api.ExprTable, At: 7}
			want := api.Fault{Err: api.ErrName, At: 7}
			if kid == 0 {
				want = api.Fault{Err: api.ErrLimit, At: 13}
			}
			checkBig(t, x, want)
			checkBig(t, chain(api.ExprMinus, kid, levels, relation("v")), api.Fault{Err: api.ErrName, At: 1})
		}
	}
	for table, want := range map[string]api.Fault{"t": {Err: api.ErrLimit, At: 3}, "v": {Err: api.ErrName}} {
		x := relation(table)
		for range 1000000 {
			x = api.Expr{Kind: api.ExprProject, Kids: []api.Expr{x}, At: 3}
		}
		checkBig(t, x, want)
	}
}

// P1: kids may be the same ones in many places, so that an expression that takes little memory has more parts than can be counted.
func TestSharedKids(t *testing.T) {
	for table, want := range map[string]api.Fault{"t": {Err: api.ErrLimit, At: 13}, "v": {Err: api.ErrName, At: 1}} {
		x := relation(table)
		x.At = 1
		for level := range 1000 {
			x = api.Expr{Kind: api.ExprUnion, Kids: []api.Expr{x, x}, At: level + 2}
		}
		checkBig(t, x, want)
	}
}

// P1: an expression that contains itself has levels without an end.
func TestCircles(t *testing.T) {
	for kind := range 10 {
		for n := 1; n <= 3; n++ {
			for at := range n {
				kids := slices.Repeat([]api.Expr{relation("t")}, n)
				kids[at] = api.Expr{Kind: kind, Kids: kids, At: 5}
				checkBig(t, api.Expr{Kind: kind, Kids: kids, At: 5}, api.Fault{Err: api.ErrLimit, At: 5})
			}
		}
	}
	kids := []api.Expr{{}}
	kids[0] = chain(api.ExprJoin, 1, 1000, api.Expr{Kind: api.ExprProject, Kids: kids})
	_, faults := resolve.Resolve(after(query(kids[0])))
	if len(faults) != 1 || faults[0].Err != api.ErrLimit {
		t.Errorf("faults %v", faults)
	}
}

// P1: an expression of any kind may have many kids.
func TestManyKids(t *testing.T) {
	for kind := range 10 {
		x := api.Expr{Kind: kind, Kids: slices.Repeat([]api.Expr{relation("t")}, 20000), At: 5}
		checkBig(t, x, api.Fault{Err: api.ErrArg, At: 5})
		x.Kids[19999] = api.Expr{Kind: api.ExprTable, Table: "v", At: 6}
		checkBig(t, x, api.Fault{Err: api.ErrName, At: 6})
	}
}

// P10.1 (J1): 200 items have a setup; of more, the 201st one is the only fault.
func TestNumberOfItems(t *testing.T) {
	queries := many(item("query q = t;"), 300)
	checkFaults(t, after(queries[:197]...))
	checkFaults(t, after(queries[:198]...))
	for _, n := range []int{199, 200, 298} {
		checkFaults(t, after(queries[:n]...), api.Fault{Err: api.ErrLimit, At: 2000})
		checkFaults(t, program(slices.Repeat([]api.Item{{}}, n+2)...), api.Fault{Err: api.ErrLimit, At: 2000})
	}
	checkFaults(t, program(slices.Repeat([]api.Item{{}}, 200)...), faultsFrom(api.ErrArg, 0, 200)...)
	p := after(queries...)
	p.Items[200].At = -5
	checkFaults(t, p, api.Fault{Err: api.ErrLimit, At: -5})
}

// P10.1: every number has a range, the ends of which are in it.
func TestRanges(t *testing.T) {
	term := func(set func(t *api.Term, n int)) func(n int) api.Item {
		return func(n int) api.Item {
			x := item("match m on t at 1 { age near 3 least 1 gives 1; }")
			set(&x.Terms[0], n)
			return x
		}
	}
	of := func(source string, set func(x *api.Item, n int)) func(n int) api.Item {
		return func(n int) api.Item {
			x := item(source)
			set(&x, n)
			return x
		}
	}
	value := func(kind int) func(n int) api.Item {
		return func(n int) api.Item {
			return api.Item{Kind: api.ItemTable, Name: "v", Columns: []api.Column{{Name: "a", Kind: kind, Default: api.Value{Kind: kind, N: n}}}, Names: []string{"a"}}
		}
	}
	for _, test := range []struct {
		least, greatest int
		item            func(n int) api.Item
	}{
		{0, 100, of("source s trust 0;", func(x *api.Item, n int) { x.N = n })},
		{1, 24, of("block b on t.name by prefix 0;", func(x *api.Item, n int) { x.N = n })},
		{1, 64, of("block b on t.name by sketch 0 0;", func(x *api.Item, n int) { x.N, x.M = n, n })},
		{1, 64, of("block b on t.name by sketch 0 1;", func(x *api.Item, n int) { x.N = n })},
		{0, 10000, of("match m on t at 0 { age equal least 1 gives 1; }", func(x *api.Item, n int) { x.N = n })},
		{0, 1000, term(func(t *api.Term, n int) { t.Gives = n })},
		{0, 1000, term(func(t *api.Term, n int) { t.Takes = n })},
		{0, 999999999, term(func(t *api.Term, n int) { t.Tolerance = n })},
		{0, 1, term(func(t *api.Term, n int) { t.Least = api.Ratio{Num: n, Den: 1} })},
		{-1000000000, 1000000000, value(api.KindNumber)},
		{0, 73048, value(api.KindDay)},
		{0, 1, value(api.KindFlag)},
		{-1000000000, 1000000000, of("deny d t x where x.age = 3;", func(x *api.Item, n int) { x.Conds[0].Add = n })},
		{-1000000000, 1000000000, of("deny d t x where x.age = 3;", func(x *api.Item, n int) { x.Conds[0].Right.Value.N = n })},
		{0, 73048, of("deny d t x where @3 = x.born;", func(x *api.Item, n int) { x.Conds[0].Left.Value.N = n })},
		{0, 1, of("depend d on t(age) to born where ok = true;", func(x *api.Item, n int) { x.Fixed[0].Value.N = n })},
	} {
		for _, n := range []int{test.least, test.least + 1, test.greatest - 1, test.greatest} {
			checkFault(t, test.item(n), api.OK)
		}
		for _, n := range []int{test.least - 1, test.greatest + 1, math.MinInt, math.MaxInt} {
			checkFault(t, test.item(n), api.ErrRange)
		}
	}
}

// P10.1: a sketch has a divisor of its number of elements; both are in the setup.
func TestDivisors(t *testing.T) {
	for n := -2; n <= 70; n++ {
		for m := -3; m <= 72; m++ {
			x := item("block b on t.name by sketch 1 1;")
			x.N, x.M = n, m
			if n < 1 || n > 64 || m < 1 || n%m != 0 {
				checkFault(t, x, api.ErrRange)
				continue
			}
			got, _ := resolve.Resolve(after(x))
			if !isEqual(got.Blocks, []api.Block{{Name: "b", By: api.BySketch, N: n, M: m}}) {
				t.Errorf("%d and %d: %v", n, m, got.Blocks)
			}
		}
	}
}

// P10.1: shares are valid ratios from 0 to 1.
func TestShares(t *testing.T) {
	for _, least := range []api.Ratio{{Num: 0, Den: 1}, {Num: 1, Den: 1}, {Num: 1, Den: 2}, {Num: 1, Den: 1000000000}, {Num: 999999999, Den: 1000000000}} {
		x := item("match m on t at 1 { age equal least 1 gives 1; }")
		x.Terms[0].Least = least
		got, _ := resolve.Resolve(after(x))
		if len(got.Matches) != 1 || got.Matches[0].Terms[0].Least != least {
			t.Errorf("%v: %v", least, got.Matches)
		}
	}
	for _, least := range noShares() {
		x := item("match m on t at 1 { age equal least 1 gives 1; }")
		x.Terms[0].Least = least
		checkFault(t, x, api.ErrRange)
	}
}

// P10.1: names have a letter and then letters, digits and _; there are at most 24 bytes. They stand for items, columns and results.
func TestNames(t *testing.T) {
	uses := []func(name string) api.Item{
		func(name string) api.Item { return named(item("source s trust 3;"), name) },
		func(name string) api.Item { return named(item("table v(a text) key a;"), name) },
		func(name string) api.Item { return named(item("query q = t;"), name) },
		func(name string) api.Item {
			x := item("table v(a text) key a;")
			x.Columns[0].Name, x.Names[0] = name, name
			return x
		},
		func(name string) api.Item {
			return query(api.Expr{Kind: api.ExprRename, Kids: []api.Expr{relation("u")}, Attr: "n", As: name, At: 20})
		},
		func(name string) api.Item {
			return query(api.Expr{Kind: api.ExprGroup, Kids: []api.Expr{relation("u")}, Agg: api.AggCount, As: name, At: 20})
		},
	}
	for _, use := range uses {
		for _, name := range []string{"a", "Z", "a1", "a_", "aZ9_", "table", "true", "null", longName} {
			checkFault(t, use(name), api.OK)
		}
		for _, name := range noNames() {
			checkFault(t, use(name), api.ErrArg)
		}
		for c := range 256 {
			isLetter := c >= 'a' && c <= 'z' || c >= 'A' && c <= 'Z'
			isPart := isLetter || c >= '0' && c <= '9' || c == '_'
			for name, isName := range map[string]bool{string([]byte{byte(c)}): isLetter, string([]byte{'k', byte(c)}): isPart, string([]byte{'k', byte(c), 'k'}): isPart} {
				// The base has tables with these names.
				if name == "t" || name == "u" {
					continue
				}
				if isName {
					checkFault(t, use(name), api.OK)
				} else {
					checkFault(t, use(name), api.ErrArg)
				}
			}
		}
	}
}

// P10.1: texts of 200 bytes are values.
func TestLongTexts(t *testing.T) {
	x := item(`table v(a text = "x") key a;`)
	for _, n := range []int{0, 199, 200} {
		x.Columns[0].Default.Text = strings.Repeat("\xff", n)
		got, _ := resolve.Resolve(after(x))
		if len(got.Schema.Tables) != 3 || got.Schema.Tables[2].Attrs[0].Default != x.Columns[0].Default {
			t.Errorf("%d bytes: %s", n, show(got))
		}
	}
}

// P10.1: the fields that a kind does not have do not matter, and are zero in the setup.
func TestOtherFields(t *testing.T) {
	fields := [...]string{api.ItemTable: "Columns Names", api.ItemOrigin: "N", api.ItemBlock: "Table Attr By", api.ItemMatch: "Table N Terms", api.ItemKeep: "Table Attr By", api.ItemUnique: "Table Names", api.ItemDepend: "Table Names Attr Fixed", api.ItemInclude: "Table Attr Other OtherAttr", api.ItemDeny: "Vars Conds", api.ItemQuery: "Expr"}
	junk := api.Item{Table: "v", Attr: "x", Columns: []api.Column{{Name: "1", Kind: 7}}, Names: []string{"x", "x"}, By: 9, N: -7, M: -8, Terms: []api.Term{{}}, Other: "w", OtherAttr: "y", Fixed: []api.Named{{Name: "z"}}, Vars: []api.Var{{}, {}}, Conds: []api.Cond{{Op: 8}}, Expr: api.Expr{Kind: 9, Kids: []api.Expr{{}}}}
	for _, x := range parse(base + rest).Items {
		own := strings.Fields(fields[x.Kind])
		if x.Kind == api.ItemTable {
			x.Name += "_"
		}
		want, faults := resolve.Resolve(after(x))
		if len(faults) > 0 {
			t.Fatalf("%s: %v", show(x), faults)
		}
		full := x
		for i := range reflect.TypeFor[api.Item]().NumField() {
			name := reflect.TypeFor[api.Item]().Field(i).Name
			if !slices.Contains(own, name) && !slices.Contains([]string{"Kind", "Name", "At"}, name) {
				reflect.ValueOf(&full).Elem().Field(i).Set(reflect.ValueOf(junk).Field(i))
			}
		}
		got, faults := resolve.Resolve(after(full))
		check(t, full, got, faults, want, nil)
	}
}

// P10.1: N and M of blocks, tolerances, variables and values of sides, and fields of expressions matter only where they are named.
func TestOtherFieldsOfParts(t *testing.T) {
	for by, want := range map[string]api.Block{"exact": {By: api.ByExact}, "token": {By: api.ByToken}, "prefix 7": {By: api.ByPrefix, N: 7}} {
		x := item("block b on t.name by " + by + ";")
		x.M = -3
		if by != "prefix 7" {
			x.N = 70
		}
		want.Name = "b"
		got, faults := resolve.Resolve(after(x))
		check(t, x, api.Setup{Blocks: got.Blocks}, faults, api.Setup{Blocks: []api.Block{want}}, nil)
	}
	for _, measure := range []int{api.MeasureEqual, api.MeasureEdit, api.MeasureJaccard, api.MeasureJaro} {
		for _, n := range []int{0, 5, -1, 1000000000, math.MinInt} {
			x := item("match m on t at 1 { name equal least 1 gives 1; }")
			x.Terms[0].Measure, x.Terms[0].Tolerance = measure, n
			got, faults := resolve.Resolve(after(x))
			want := []api.Match{{Name: "m", At: 1, Terms: []api.Weigh{{Measure: measure, Least: api.Ratio{Num: 1, Den: 1}, Gives: 1}}}}
			check(t, x, api.Setup{Matches: got.Matches}, faults, api.Setup{Matches: want}, nil)
		}
	}
	x := item("deny d t x where x.age < 3;")
	x.Conds[0].Left.Value = api.Value{Kind: 9, N: 4, Text: "y"}
	x.Conds[0].Right.Var, x.Conds[0].Right.Attr = "v", "w"
	got, faults := resolve.Resolve(after(x))
	want := []api.Rule{{Kind: api.RuleDeny, Name: "d", Tables: []int{0}, Tests: []api.Test{{Left: api.Side{Col: 1}, Op: api.OpLess, Right: api.Side{Var: -1, Value: number(3)}}}}}
	check(t, x, api.Setup{Rules: got.Rules}, faults, api.Setup{Rules: want}, nil)
}

// P10.1: the fields that a kind of expression does not have do not matter, and are zero in its plan.
func TestOtherFieldsOfExpressions(t *testing.T) {
	fields := [...]string{api.ExprTable: "Table", api.ExprSelect: "Conds", api.ExprProject: "Names", api.ExprJoin: "", api.ExprUnion: "", api.ExprMinus: "", api.ExprRename: "Attr As", api.ExprGroup: "Names Attr As Agg"}
	junk := api.Expr{Table: "v", Conds: []api.Cond{{Op: 8}}, Names: []string{"x", "x"}, Attr: "y", As: "1", Agg: 9}
	for _, x := range append(operations(relation("t"), relation("t")), relation("u")) {
		want, faults := resolve.Resolve(after(query(x)))
		if len(faults) > 0 {
			t.Fatalf("%s: %v", show(x), faults)
		}
		full := x
		for i := range reflect.TypeFor[api.Expr]().NumField() {
			name := reflect.TypeFor[api.Expr]().Field(i).Name
			if !slices.Contains(strings.Fields(fields[x.Kind]), name) && !slices.Contains([]string{"Kind", "Kids", "At"}, name) {
				reflect.ValueOf(&full).Elem().Field(i).Set(reflect.ValueOf(junk).Field(i))
			}
		}
		got, faults := resolve.Resolve(after(query(full)))
		check(t, full, got, faults, want, nil)
	}
}
