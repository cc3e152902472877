package resolve_test

import (
	"fmt"
	"math"
	"reflect"
	"slices"
	"strings"
	"testing"

	"cleanse/api"
	"cleanse/resolve"
)

// longName is a name of 24 bytes.
const longName = "abcdefghijklmnopqrstuvwx"

// noNames are texts that are no names.
func noNames() []string {
	return []string{"", longName + "y", "1a", "_a", "a b", "a ", " a", "a#", "a;", "a.b", "-a", `"a"`, "a\n", "é", "\xff", "a\x00", ";", "1", strings.Repeat("a", 30000), strings.Repeat("a ", 6000)}
}

// damage is a change by which an item has a fault.
type damage struct {
	err    api.Errno
	change func(x *api.Item)
}

// copied returns a copy of an item that shares no slices with it.
func copied[T any](x T) T {
	out := x
	copySlices(reflect.ValueOf(&out).Elem())
	return out
}

func copySlices(v reflect.Value) {
	switch v.Kind() {
	case reflect.Struct:
		for i := range v.NumField() {
			copySlices(v.Field(i))
		}
	case reflect.Slice:
		if v.IsNil() {
			return
		}
		out := reflect.MakeSlice(v.Type(), v.Len(), v.Len())
		reflect.Copy(out, v)
		v.Set(out)
		for i := range v.Len() {
			copySlices(v.Index(i))
		}
	}
}

// checkDamages checks that an item behind others has no fault, the fault of each damage, and, of several damages, that of the first one. Damages are in the order of the chapter.
func checkDamages(t *testing.T, before []api.Item, x api.Item, damages []damage) {
	t.Helper()
	checkDamaged(t, before, x, api.OK)
	for i := range damages {
		last := copied(x)
		for k := len(damages) - 1; k >= i; k-- {
			damages[k].change(&last)
			if k > i {
				both := copied(x)
				damages[k].change(&both)
				damages[i].change(&both)
				checkDamaged(t, before, both, damages[i].err)
			}
		}
		checkDamaged(t, before, last, damages[i].err)
		alone := copied(x)
		damages[i].change(&alone)
		checkDamaged(t, before, alone, damages[i].err)
	}
}

// checkDamaged checks the only fault of an item that stands behind the base and others.
func checkDamaged(t *testing.T, before []api.Item, x api.Item, err api.Errno) {
	t.Helper()
	at := 20 + 10*len(before)
	setOffsets(&x.Expr, at)
	p := after(append(slices.Clone(before), x)...)
	if err == api.OK {
		checkFaults(t, p)
		return
	}
	checkFaults(t, p, api.Fault{Err: err, At: at})
}

// setOffsets sets the offsets of an expression and of those in it.
func setOffsets(x *api.Expr, at int) {
	x.At = at
	for i := range x.Kids {
		setOffsets(&x.Kids[i], at)
	}
}

// ofName returns damages of the name of an item. They come before all others.
func ofName(used string) []damage {
	var out []damage
	for _, name := range noNames() {
		out = append(out, damage{api.ErrArg, func(x *api.Item) { x.Name = name }})
	}
	return append(out, damage{api.ErrTwice, func(x *api.Item) { x.Name = used }})
}

// numbers returns damages by which a number is beyond a range.
func numbers(least, greatest int, set func(x *api.Item, n int)) []damage {
	var out []damage
	for _, n := range []int{least - 1, greatest + 1, math.MinInt, math.MaxInt} {
		out = append(out, damage{api.ErrRange, func(x *api.Item) { set(x, n) }})
	}
	return out
}

// kinds returns damages by which a number is none of those of api from 1 on.
func kinds(greatest int, set func(x *api.Item, n int)) []damage {
	var out []damage
	for _, n := range []int{0, -1, greatest + 1, math.MinInt, math.MaxInt} {
		out = append(out, damage{api.ErrArg, func(x *api.Item) { set(x, n) }})
	}
	return out
}

// P10.1: a kind that is none is a fault, whatever else the item has.
func TestKindsOfItems(t *testing.T) {
	for _, kind := range []int{0, -1, 11, 12, math.MinInt, math.MaxInt} {
		for _, x := range parse(base + rest).Items {
			x.Kind = kind
			checkFault(t, x, api.ErrArg)
		}
		checkFaults(t, program(api.Item{Kind: kind}), api.Fault{Err: api.ErrArg})
	}
}

// P10.1: the faults of tables, and their order.
func TestFaultsOfTables(t *testing.T) {
	x := item(`table v(a text, b number = 3, c day) key c, a;`)
	damages := ofName("t")
	damages = append(damages,
		damage{api.ErrLimit, func(x *api.Item) { x.Columns = nil }},
		damage{api.ErrLimit, func(x *api.Item) {
			x.Columns = slices.Concat(x.Columns, x.Columns, x.Columns, x.Columns, x.Columns)
		}},
	)
	for i := range 3 {
		for _, name := range noNames() {
			damages = append(damages, damage{api.ErrArg, func(x *api.Item) { x.Columns[i].Name = name }})
		}
		damages = append(damages, kinds(4, func(x *api.Item, n int) { x.Columns[i].Kind = n })...)
		if i > 0 {
			damages = append(damages, damage{api.ErrTwice, func(x *api.Item) { x.Columns[i].Name = "a" }})
		}
		for _, v := range noValues() {
			damages = append(damages, damage{api.ErrRange, func(x *api.Item) { x.Columns[i].Default = v }})
		}
		damages = append(damages, damage{api.ErrType, func(x *api.Item) { x.Columns[i].Default = flag(1) }})
	}
	damages = append(damages,
		damage{api.ErrArg, func(x *api.Item) { x.Names = nil }},
		damage{api.ErrName, func(x *api.Item) { x.Names = []string{"d", "a", "a"} }},
		damage{api.ErrTwice, func(x *api.Item) { x.Names = []string{"a", "a", "d"} }},
	)
	checkDamages(t, nil, x, damages)
	for kind := api.KindText; kind <= api.KindFlag; kind++ {
		for _, v := range []api.Value{null, text("a"), number(1), day(1), flag(1)} {
			x := item(`table v(a text) key a;`)
			x.Columns[0].Kind, x.Columns[0].Default = kind, v
			if v.Kind == kind || v == null {
				checkFault(t, x, api.OK)
			} else {
				checkFault(t, x, api.ErrType)
			}
		}
	}
}

// noValues returns values that are not valid.
func noValues() []api.Value {
	return []api.Value{number(1000000001), number(-1000000001), day(-1), day(73049), flag(2), flag(-1), text(strings.Repeat("x", 201)), {N: 1}, {Text: "x"}, {Kind: api.KindText, N: 1}, {Kind: api.KindNumber, Text: "x"}, {Kind: 5}, {Kind: -1}}
}

// P10.1: the names of a key are those of columns, each of which is there once.
func TestKeysOfTables(t *testing.T) {
	for keys, err := range map[string]api.Errno{"a": api.OK, "b": api.OK, "b a": api.OK, "c": api.ErrName, "a c": api.ErrName, "a a": api.ErrTwice, "a b a": api.ErrTwice, "a a c": api.ErrTwice, "a c a": api.ErrName, "A": api.ErrName, "": api.ErrArg} {
		x := item(`table v(a text, b text) key a;`)
		x.Names = strings.Fields(keys)
		checkFault(t, x, err)
	}
}

// P10.1: the faults of sources, and their order.
func TestFaultsOfOrigins(t *testing.T) {
	used := []api.Item{item("source z trust 5;")}
	checkDamages(t, used, item("source s trust 7;"), append(ofName("z"), numbers(0, 100, func(x *api.Item, n int) { x.N = n })...))
}

// ofPlace returns damages of a table and of an attribute of it.
func ofPlace(table, attr func(x *api.Item) *string) []damage {
	return []damage{
		{api.ErrName, func(x *api.Item) { *table(x) = "v" }},
		{api.ErrName, func(x *api.Item) { *table(x) = "" }},
		{api.ErrName, func(x *api.Item) { *attr(x) = "x" }},
		{api.ErrName, func(x *api.Item) { *attr(x) = "" }},
		{api.ErrName, func(x *api.Item) { *attr(x) = "ref" }},
	}
}

func tableOf(x *api.Item) *string { return &x.Table }

func attrOf(x *api.Item) *string { return &x.Attr }

// P10.1: the faults of blocks, and their order.
func TestFaultsOfBlocks(t *testing.T) {
	used := []api.Item{item("block z on t.name by exact;")}
	start := slices.Concat(ofName("z"), ofPlace(tableOf, attrOf), kinds(4, func(x *api.Item, n int) { x.By = n }))
	checkDamages(t, used, item("block b on t.ok by exact;"), start)
	checkDamages(t, used, item("block b on t.ok by token;"), start)
	prefix := numbers(1, 24, func(x *api.Item, n int) { x.By, x.N = api.ByPrefix, n })
	checkDamages(t, used, item("block b on t.ok by prefix 5;"), slices.Concat(start, prefix))
	sketch := numbers(1, 64, func(x *api.Item, n int) { x.By, x.N = api.BySketch, n })
	for _, n := range []int{0, -1, -12, 5, 7, 8, 9, 10, 11, 13, 24, math.MinInt, math.MaxInt} {
		sketch = append(sketch, damage{api.ErrRange, func(x *api.Item) { x.By, x.M = api.BySketch, n }})
	}
	checkDamages(t, used, item("block b on t.ok by sketch 12 3;"), slices.Concat(start, sketch))
}

// P10.1: the faults of matches, and their order: all of a term come before those of the next one.
func TestFaultsOfMatches(t *testing.T) {
	used := []api.Item{item("match z on t at 1 { name equal least 1 gives 1; }")}
	x := item("match m on t at 5 { name jaro least 1/2 gives 3 takes 4; age near 7 least 1 gives 1; }")
	damages := append(ofName("z"),
		damage{api.ErrName, func(x *api.Item) { x.Table = "v" }},
		damage{api.ErrLimit, func(x *api.Item) { x.Terms = slices.Repeat(x.Terms, 7) }},
	)
	damages = append(damages, numbers(0, 10000, func(x *api.Item, n int) { x.N = n })...)
	for i := range 2 {
		damages = append(damages,
			damage{api.ErrName, func(x *api.Item) { x.Terms[i].Attr = "ref" }},
			damage{api.ErrName, func(x *api.Item) { x.Terms[i].Attr = "" }},
		)
		damages = append(damages, kinds(5, func(x *api.Item, n int) { x.Terms[i].Measure = n })...)
		for _, least := range noShares() {
			damages = append(damages, damage{api.ErrRange, func(x *api.Item) { x.Terms[i].Least = least }})
		}
		damages = append(damages, numbers(0, 1000, func(x *api.Item, n int) { x.Terms[i].Gives = n })...)
		damages = append(damages, numbers(0, 1000, func(x *api.Item, n int) { x.Terms[i].Takes = n })...)
		if i == 1 {
			damages = append(damages, numbers(0, 999999999, func(x *api.Item, n int) { x.Terms[i].Tolerance = n })...)
		}
		damages = append(damages, damage{api.ErrType, func(x *api.Item) { x.Terms[i].Attr = "ok" }})
	}
	checkDamages(t, used, x, damages)
	none := copied(x)
	none.Terms = nil
	checkFault(t, none, api.ErrLimit)
	none.N = -1
	checkFault(t, none, api.ErrLimit)
	none.Table = "v"
	checkFault(t, none, api.ErrName)
}

// noShares are ratios that are not from 0 to 1, or not valid.
func noShares() []api.Ratio {
	return []api.Ratio{{}, {Num: 1}, {Num: 0, Den: 2}, {Num: 2, Den: 2}, {Num: 2, Den: 4}, {Num: -1, Den: 1}, {Num: -1, Den: 3}, {Num: 1, Den: -1}, {Num: -1, Den: -1}, {Num: 3, Den: 2}, {Num: 2, Den: 1}, {Num: 1, Den: 1000000001}, {Num: 1000000001, Den: 1}, {Num: math.MinInt, Den: math.MinInt}, {Num: 1000000000, Den: 999999999}}
}

// P10.1: a measure takes attributes of some kinds.
func TestMeasuresAndKinds(t *testing.T) {
	for i, name := range []string{"name", "age", "born", "ok"} {
		for measure := api.MeasureEqual; measure <= api.MeasureNear; measure++ {
			x := item("match m on t at 5 { name equal least 1 gives 3; }")
			x.Terms[0].Attr, x.Terms[0].Measure = name, measure
			isRight := measure == api.MeasureEqual || measure == api.MeasureNear && (i == 1 || i == 2) || measure != api.MeasureNear && i == 0
			if isRight {
				checkFault(t, x, api.OK)
			} else {
				checkFault(t, x, api.ErrType)
			}
		}
	}
	// An attribute may have several terms.
	checkFault(t, item("match m on t at 5 { name jaro least 1 gives 3; name jaro least 1 gives 3; name equal least 1 gives 3; }"), api.OK)
}

// P10.1: the faults of keeps, and their order.
func TestFaultsOfKeeps(t *testing.T) {
	used := []api.Item{item("keep t.born by most;")}
	x := item("keep t.age by least;")
	damages := slices.Concat(ofPlace(tableOf, attrOf), kinds(6, func(x *api.Item, n int) { x.By = n }), []damage{
		{api.ErrTwice, func(x *api.Item) { x.Attr = "born" }},
		{api.ErrType, func(x *api.Item) { x.By = api.KeepLongest }},
	})
	checkDamages(t, used, x, damages)
	for i, name := range []string{"name", "age", "born", "ok"} {
		for by := api.KeepLatest; by <= api.KeepGreatest; by++ {
			x.Attr, x.By = name, by
			if by != api.KeepLongest || i == 0 {
				checkFault(t, x, api.OK)
			} else {
				checkFault(t, x, api.ErrType)
			}
		}
	}
}

// P10.1: a keep has no name of its own, so that nothing is wrong with one.
func TestNamesOfKeeps(t *testing.T) {
	for _, name := range append(noNames(), "x") {
		checkFaults(t, after(named(item("keep t.age by least;"), name), named(item("keep t.born by least;"), name)))
	}
}

// ofNames returns damages of a list of attributes.
func ofNames() []damage {
	return []damage{
		{api.ErrArg, func(x *api.Item) { x.Names = nil }},
		{api.ErrName, func(x *api.Item) { x.Names = []string{"x", "age", "age"} }},
		{api.ErrName, func(x *api.Item) { x.Names = []string{""} }},
		{api.ErrTwice, func(x *api.Item) { x.Names = []string{"age", "age", "x"} }},
		{api.ErrTwice, func(x *api.Item) { x.Names = []string{"age", "born", "age"} }},
		{api.ErrName, func(x *api.Item) { x.Names = []string{"age", "born", "x"} }},
	}
}

// usedRules are constraints of each kind, named by it.
func usedRules() []api.Item {
	return parse("unique z on t(age); depend y on t(age) to ok; include x t.age in u.n; deny w t x where x.age = 3;").Items
}

// P10.1: the faults of uniques, and their order.
func TestFaultsOfUniques(t *testing.T) {
	for _, name := range []string{"z", "y", "x", "w"} {
		checkDamages(t, usedRules(), item("unique k on t(age, ok);"), slices.Concat(ofName(name), ofPlace(tableOf, tableOf)[:2], ofNames()))
	}
}

// P10.1: the faults of depends, and their order: all of a constant come before those of the next one.
func TestFaultsOfDepends(t *testing.T) {
	x := item(`depend k on t(age, born) to nick where ok = true, name = "x", nick = "", age = 3;`)
	damages := []damage{
		{api.ErrName, func(x *api.Item) { x.Attr = "x" }},
		{api.ErrName, func(x *api.Item) { x.Attr = "" }},
		{api.ErrArg, func(x *api.Item) { x.Attr = "age" }},
		{api.ErrArg, func(x *api.Item) { x.Attr = "born" }},
	}
	for i := range 4 {
		damages = append(damages, damage{api.ErrName, func(x *api.Item) { x.Fixed[i].Name = "x" }}, damage{api.ErrName, func(x *api.Item) { x.Fixed[i].Name = "" }})
		if i > 0 {
			damages = append(damages, damage{api.ErrTwice, func(x *api.Item) { x.Fixed[i].Name = "ok" }})
		}
		for _, v := range noValues() {
			damages = append(damages, damage{api.ErrRange, func(x *api.Item) { x.Fixed[i].Value = v }})
		}
		damages = append(damages, damage{api.ErrType, func(x *api.Item) { x.Fixed[i].Value = null }}, damage{api.ErrType, func(x *api.Item) { x.Fixed[i].Value = day(3) }})
	}
	for _, name := range []string{"z", "y", "x", "w"} {
		checkDamages(t, usedRules(), x, slices.Concat(ofName(name), ofPlace(tableOf, tableOf)[:2], ofNames(), damages))
	}
	x.Fixed = nil
	checkDamages(t, nil, x, damages[:4])
	// Another constant of an attribute is a fault, also if it is the same one.
	x.Fixed = []api.Named{{Name: "ok", Value: flag(1)}, {Name: "name", Value: text("")}, {Name: "name", Value: text("")}}
	checkFault(t, x, api.ErrTwice)
}

// P10.1: the faults of includes, and their order.
func TestFaultsOfIncludes(t *testing.T) {
	x := item("include k t.age in t.age;")
	damages := slices.Concat(ofPlace(tableOf, attrOf), ofPlace(func(x *api.Item) *string { return &x.Other }, func(x *api.Item) *string { return &x.OtherAttr }),
		[]damage{{api.ErrType, func(x *api.Item) { x.OtherAttr = "born" }}, {api.ErrType, func(x *api.Item) { x.Attr = "born" }}})
	for _, name := range []string{"z", "y", "x", "w"} {
		checkDamages(t, usedRules(), x, append(ofName(name), damages[:11]...))
		checkDamages(t, usedRules(), x, append(damages[:10:10], damages[11]))
	}
	columns := []string{"t.name", "t.age", "t.born", "t.ok", "u.ref", "u.n"}
	kinds := []int{1, 2, 3, 4, 1, 2}
	for i, a := range columns {
		for k, b := range columns {
			want := api.OK
			if kinds[i] != kinds[k] {
				want = api.ErrType
			}
			checkFault(t, item(fmt.Sprintf("include k %s in %s;", a, b)), want)
		}
	}
}

// ofConds returns damages of conditions that compare texts with other texts, both sides of which are attributes of the variable x, and then numbers with a number.
func ofConds(conds func(x *api.Item) []api.Cond) []damage {
	var out []damage
	add := func(err api.Errno, change func(c []api.Cond)) {
		out = append(out, damage{err, func(x *api.Item) { change(conds(x)) }})
	}
	for i := range 2 {
		for _, op := range []int{0, -1, 5, math.MinInt, math.MaxInt} {
			add(api.ErrArg, func(c []api.Cond) { c[i].Op = op })
		}
		for _, side := range []func(c *api.Cond) *api.Operand{func(c *api.Cond) *api.Operand { return &c.Left }, func(c *api.Cond) *api.Operand { return &c.Right }} {
			for _, v := range noValues() {
				add(api.ErrRange, func(c []api.Cond) { *side(&c[i]) = constant(v) })
			}
			add(api.ErrName, func(c []api.Cond) { side(&c[i]).Const, side(&c[i]).Var, side(&c[i]).Attr = false, "v", "name" })
			add(api.ErrName, func(c []api.Cond) { side(&c[i]).Const, side(&c[i]).Attr = false, "none" })
			add(api.ErrName, func(c []api.Cond) { side(&c[i]).Const, side(&c[i]).Attr = false, "" })
		}
		for _, n := range []int{1000000001, -1000000001, math.MaxInt, math.MinInt} {
			add(api.ErrRange, func(c []api.Cond) { c[i].Add = n })
		}
		add(api.ErrType, func(c []api.Cond) { c[i].Left, c[i].Right = constant(number(3)), constant(number(3)) })
		add(api.ErrType, func(c []api.Cond) { c[i].Right = constant(null) })
		add(api.ErrType, func(c []api.Cond) { c[i].Left = constant(null) })
		add(api.ErrType, func(c []api.Cond) { c[i].Left, c[i].Right = constant(null), constant(null) })
		add(api.ErrType, func(c []api.Cond) { c[i].Right = constant(day(5)) })
		add(api.ErrType, func(c []api.Cond) { c[i].Left = constant(day(5)) })
		if i == 0 {
			add(api.ErrType, func(c []api.Cond) { c[i].Add = 1 })
			add(api.ErrType, func(c []api.Cond) { c[i].Add = -1000000000 })
		}
	}
	return out
}

// P10.1: the faults of denies, and their order: all of a variable, and of a condition, come before those of the next one.
func TestFaultsOfDenies(t *testing.T) {
	x := item("deny k t x, u y, t z where x.name = x.nick and x.age < 3 + 5;")
	damages := []damage{
		{api.ErrLimit, func(x *api.Item) { x.Vars = slices.Concat(x.Vars, x.Vars) }},
		{api.ErrLimit, func(x *api.Item) { x.Conds = slices.Repeat(x.Conds, 7) }},
		{api.ErrName, func(x *api.Item) { x.Vars[0].Table = "v" }},
		{api.ErrTwice, func(x *api.Item) { x.Vars[1].Name = "x" }},
		{api.ErrName, func(x *api.Item) { x.Vars[1].Table = "" }},
		{api.ErrTwice, func(x *api.Item) { x.Vars[2].Name = x.Vars[1].Name }},
		{api.ErrTwice, func(x *api.Item) { x.Vars[2].Name = "x" }},
		{api.ErrName, func(x *api.Item) { x.Vars[2].Table = "w" }},
	}
	damages = append(damages, ofConds(func(x *api.Item) []api.Cond { return x.Conds })...)
	for _, name := range []string{"z", "y", "x", "w"} {
		checkDamages(t, usedRules(), x, append(ofName(name), damages...))
	}
	for _, change := range []func(x *api.Item){func(x *api.Item) { x.Vars = nil }, func(x *api.Item) { x.Conds = nil }, func(x *api.Item) { x.Vars, x.Conds = nil, nil }} {
		none := copied(x)
		change(&none)
		checkFault(t, none, api.ErrLimit)
	}
}

// P10.1: the sides of a deny are attributes of the tables of their variables.
func TestVariables(t *testing.T) {
	for source, err := range map[string]api.Errno{
		"x.age = y.n":     api.OK,
		"y.n = x.age":     api.OK,
		"x.n = y.n":       api.ErrName,
		"y.age = y.n":     api.ErrName,
		"age = 3":         api.ErrName,
		"x.age = n":       api.ErrName,
		"t.age = 3":       api.ErrName,
		"x.age = x.age":   api.OK,
		"x.name = y.ref":  api.OK,
		"x.name = y.n":    api.ErrType,
		"z.name = 3":      api.ErrName,
		"3 = z.name":      api.ErrName,
		"3 = x.age - 5":   api.OK,
		"x.born < x.born": api.OK,
		"x.ok < true":     api.OK,
		"true < true":     api.ErrType,
		"x.ok < 1":        api.ErrType,
	} {
		checkFault(t, item("deny k t x, u y where "+source+";"), err)
	}
	// A name of a variable need not be one that can be written, and a side may name one that has none.
	x := item("deny k t x where x.age < 3;")
	for _, name := range noNames() {
		x.Vars[0].Name, x.Conds[0].Left.Var = name, name
		checkFault(t, x, api.OK)
		x.Conds[0].Left.Var = "y"
		checkFault(t, x, api.ErrName)
	}
}

// P10.1: conditions compare values of one kind, and only numbers and days with something added.
func TestKindsOfConditions(t *testing.T) {
	names := []string{"", "name", "age", "born", "ok"}
	values := []api.Value{null, text("a"), number(1), day(1), flag(1)}
	for i, name := range names {
		for k, v := range values {
			for _, add := range []int{0, 1, -1, 1000000000, -1000000000} {
				right := attr(names[k])
				isRight := i == k && (add == 0 || i == api.KindNumber || i == api.KindDay)
				for _, c := range []api.Cond{{Left: attr(name), Right: constant(v)}, {Left: constant(v), Right: attr(name)}, {Left: attr(name), Right: right}} {
					if i == 0 || k == 0 && c.Right == right {
						continue
					}
					c.Op, c.Add = 1+(i+k)%4, add
					want := api.OK
					if !isRight {
						want = api.ErrType
					}
					checkFault(t, query(api.Expr{Kind: api.ExprSelect, Kids: []api.Expr{relation("t")}, Conds: []api.Cond{c}, At: 20}), want)
					c.Left.Var, c.Right.Var = "x", "x"
					checkFault(t, api.Item{Kind: api.ItemDeny, Name: "d", Vars: []api.Var{{Name: "x", Table: "t"}}, Conds: []api.Cond{c}}, want)
				}
			}
		}
	}
}

// P10.1: two constants are a fault, whatever they are.
func TestTwoConstants(t *testing.T) {
	for _, a := range []api.Value{null, text("a"), number(1), day(1), flag(1)} {
		for _, b := range []api.Value{null, text("a"), number(1), day(1), flag(1)} {
			x := item("deny k t x where x.age = 3;")
			x.Conds[0].Left, x.Conds[0].Right = constant(a), constant(b)
			checkFault(t, x, api.ErrType)
		}
	}
}

// kidOf returns the first kid of the expression of an item.
func kidOf(x *api.Item) *api.Expr { return &x.Expr.Kids[0] }

// P10.1: the faults of a query, and their order: those of the kids come before those of the expression.
func TestFaultsOfQueries(t *testing.T) {
	used := []api.Item{item("query z = t;")}
	kid := damage{api.ErrName, func(x *api.Item) { kidOf(x).Table = "v" }}
	second := damage{api.ErrName, func(x *api.Item) { x.Expr.Kids[1] = relation("") }}
	form := slices.Concat(kinds(8, func(x *api.Item, n int) { x.Expr.Kind = n }), []damage{
		{api.ErrArg, func(x *api.Item) { x.Expr.Kids = slices.Concat(x.Expr.Kids, x.Expr.Kids, x.Expr.Kids) }},
	})
	names := []damage{
		{api.ErrName, func(x *api.Item) { x.Expr.Names = []string{"x", "age", "age"} }},
		{api.ErrName, func(x *api.Item) { x.Expr.Names = []string{""} }},
		{api.ErrTwice, func(x *api.Item) { x.Expr.Names = []string{"age", "age", "x"} }},
		{api.ErrName, func(x *api.Item) { x.Expr.Names = []string{"age", "x"} }},
	}
	var as []damage
	for _, name := range noNames() {
		as = append(as, damage{api.ErrArg, func(x *api.Item) { x.Expr.As = name }})
	}
	agg := damage{api.ErrArg, func(x *api.Item) { x.Expr.Agg = 5 }}
	nothing := damage{api.ErrName, func(x *api.Item) { x.Expr.Attr = "" }}
	none := damage{api.ErrName, func(x *api.Item) { x.Expr.Attr = "none" }}
	other := damage{api.ErrType, func(x *api.Item) { x.Expr.Attr = "born" }}
	conds := append([]damage{{api.ErrLimit, func(x *api.Item) { x.Expr.Conds = slices.Repeat(x.Expr.Conds, 7) }}}, ofConds(func(x *api.Item) []api.Cond { return x.Expr.Conds })...)
	for source, damages := range map[string][]damage{
		"t": {{api.ErrName, func(x *api.Item) { x.Expr.Table = "v" }}},
		"select(t where name = nick and age < 3 + 5)": slices.Concat([]damage{kid}, form, conds),
		"project(t on ok, name)":                      slices.Concat([]damage{kid}, form, names),
		"join(t, u)":                                  slices.Concat([]damage{kid, second}, form, []damage{{api.ErrType, func(x *api.Item) { x.Expr.Kids[1] = item("query q = rename(u, n as name);").Expr }}}),
		"union(t, t)":                                 slices.Concat([]damage{kid, second}, form, []damage{{api.ErrType, func(x *api.Item) { x.Expr.Kids[1] = relation("u") }}}),
		"minus(t, t)":                                 slices.Concat([]damage{kid, second}, form, []damage{{api.ErrType, func(x *api.Item) { x.Expr.Kids[1] = relation("u") }}}),
		"rename(t, age as x)":                         slices.Concat([]damage{kid}, form, []damage{none, nothing}, as, []damage{{api.ErrTwice, func(x *api.Item) { x.Expr.As = "born" }}}),
		"group(t on ok, name with sum age as x)":      slices.Concat([]damage{kid}, form, names, []damage{agg}, as, []damage{none, nothing, other, {api.ErrTwice, func(x *api.Item) { x.Expr.As = x.Expr.Names[0] }}}),
		"group(t on ok, name with least age as x)":    slices.Concat([]damage{kid}, form, names, []damage{agg}, as, []damage{none, nothing, {api.ErrTwice, func(x *api.Item) { x.Expr.As = x.Expr.Names[0] }}}),
		"group(t on ok, name with count as x)":        slices.Concat([]damage{kid}, form, names, []damage{agg}, as, []damage{{api.ErrArg, func(x *api.Item) { x.Expr.Attr = "age" }}, {api.ErrArg, func(x *api.Item) { x.Expr.Attr = "none" }}, {api.ErrTwice, func(x *api.Item) { x.Expr.As = x.Expr.Names[0] }}}),
	} {
		checkDamages(t, used, item("query q = "+source+";"), append(ofName("z"), damages...))
	}
}

// P10.1: tables have no kids, joins, unions and differences have two, and the other operations one. Faults of kids come first, also if there are too many of them.
func TestNumbersOfKids(t *testing.T) {
	kids := []api.Expr{relation("u"), relation("u"), relation("u"), relation("u")}
	for _, source := range []string{"u", "select(u where n = 3)", "project(u on n)", "join(u, u)", "union(u, u)", "minus(u, u)", "rename(u, n as a)", "group(u on ref with sum n as a)"} {
		x := item("query q = " + source + ";")
		right := len(x.Expr.Kids)
		for n := range 5 {
			x.Expr.Kids = kids[:n]
			err := api.OK
			if n != right {
				err = api.ErrArg
			}
			checkDamaged(t, nil, x, err)
			for i := range n {
				faulty := copied(x)
				faulty.Expr.Kids[i].Table = "v"
				checkDamaged(t, nil, faulty, api.ErrName)
			}
		}
	}
}

// P10.1: the offset of a fault of an expression is that of this expression, of the first one in the order of the kids.
func TestOffsetsOfExpressions(t *testing.T) {
	const good = "select(join(t, project(rename(u, n as m) on m)) where m < 3)"
	x := item("query q = " + good + ";").Expr
	if got := compiled(t, "query q = "+good+";").Queries[0].Plan.Attrs; !isEqual(got, attrs(ofT+" m2")) {
		t.Fatalf("%v", got)
	}
	setAll := func(x *api.Expr, at int) {
		x.At, x.Kids[0].At, x.Kids[0].Kids[0].At, x.Kids[0].Kids[1].At, x.Kids[0].Kids[1].Kids[0].At, x.Kids[0].Kids[1].Kids[0].Kids[0].At = at, at+1, at+2, at+3, at+4, at+5
	}
	setAll(&x, 1000)
	// In the order in which they are looked for.
	changes := []struct {
		change func(x *api.Expr)
		fault  api.Fault
	}{
		{func(x *api.Expr) { x.Kids[0].Kids[0].Table = "v" }, api.Fault{Err: api.ErrName, At: 1002}},
		{func(x *api.Expr) { x.Kids[0].Kids[1].Kids[0].Kids[0].Table = "v" }, api.Fault{Err: api.ErrName, At: 1005}},
		{func(x *api.Expr) { x.Kids[0].Kids[1].Kids[0].As = "" }, api.Fault{Err: api.ErrArg, At: 1004}},
		{func(x *api.Expr) { x.Kids[0].Kids[1].Names = []string{"m", "m"} }, api.Fault{Err: api.ErrTwice, At: 1003}},
		{func(x *api.Expr) { x.Kids[0].Kind = 0 }, api.Fault{Err: api.ErrArg, At: 1001}},
		{func(x *api.Expr) { x.Conds = nil }, api.Fault{Err: api.ErrLimit, At: 1000}},
	}
	for i, one := range changes {
		alone := copied(x)
		one.change(&alone)
		checkFaults(t, after(query(alone)), one.fault)
		for _, other := range changes[i+1:] {
			both := copied(alone)
			other.change(&both)
			checkFaults(t, after(query(both)), one.fault)
		}
	}
	// The name of the query is at the offset of the item.
	checkFaults(t, after(named(query(x), "")), api.Fault{Err: api.ErrArg, At: 20})
	checkFaults(t, after(query(x), query(x)), api.Fault{Err: api.ErrTwice, At: 30})
}

// P10.1: an attribute of a query has the name that the expression gives it, and no other one.
func TestNamesInQueries(t *testing.T) {
	for source, err := range map[string]api.Errno{
		"project(rename(t, age as x) on age)":                               api.ErrName,
		"project(rename(t, age as x) on x)":                                 api.OK,
		"rename(rename(t, age as x), age as y)":                             api.ErrName,
		"rename(rename(t, age as x), name as age)":                          api.OK,
		"rename(rename(t, age as x), name as x)":                            api.ErrTwice,
		"rename(project(t on name), name as age)":                           api.OK,
		"project(project(t on age) on name)":                                api.ErrName,
		"select(project(t on age) where ok = true)":                         api.ErrName,
		"select(project(t on age) where age = 3)":                           api.OK,
		"select(t where t.age = 3)":                                         api.ErrName,
		"select(t where 3 = t.age)":                                         api.ErrName,
		"group(t on age with count as age)":                                 api.ErrTwice,
		"group(t on name with count as age)":                                api.OK,
		"group(t on name with sum name as n)":                               api.ErrType,
		"group(t on name with sum born as n)":                               api.ErrType,
		"group(t on name with sum ok as n)":                                 api.ErrType,
		"group(t on name with sum age as age)":                              api.OK,
		"group(t on age with sum age as age)":                               api.ErrTwice,
		"group(group(t on with count as n) on with sum n as n)":             api.OK,
		"union(project(t on age, name), project(t on name, age))":           api.ErrType,
		"minus(project(t on age, name), project(t on name, age))":           api.ErrType,
		"union(project(t on age), project(t on age, name))":                 api.ErrType,
		"minus(project(t on age, name), project(t on age))":                 api.ErrType,
		"union(project(t on), u)":                                           api.ErrType,
		"union(project(t on name), project(u on ref))":                      api.ErrType,
		"minus(project(t on age), rename(project(t on born), born as age))": api.ErrType,
		"join(project(t on age), rename(project(t on born), born as age))":  api.ErrType,
		"join(rename(project(t on ok), ok as n), u)":                        api.ErrType,
		"join(t, t)": api.OK,
	} {
		x := item("query q = " + source + ";")
		faulty := x.Expr.At
		_, faults := resolve.Resolve(after(x))
		if err == api.OK && len(faults) > 0 || err != api.OK && !isEqual(faults, []api.Fault{{Err: err, At: faulty}}) {
			t.Errorf("%s: faults %v, not %d", source, faults, err)
		}
	}
}

// P10.1: names of items of one sort are different, also if the earlier one has a fault; those of different sorts may be the same.
func TestSameNames(t *testing.T) {
	sorts := [][]api.Item{
		parse("table k(a text) key a; table k(b number) key b;").Items,
		parse("source k trust 3; source k trust 4;").Items,
		parse("block k on t.name by exact; block k on u.n by token;").Items,
		parse("match k on t at 3 { name equal least 1 gives 1; } match k on u at 3 { n equal least 1 gives 1; }").Items,
		parse("unique k on t(age); depend k on t(age) to ok; include k t.age in u.n; deny k t x where x.age = 3; unique k on u(n);").Items,
		parse("query k = t; query k = u;").Items,
	}
	for i, a := range sorts {
		for _, one := range a {
			for _, other := range a {
				checkFaults(t, after(one, other), api.Fault{Err: api.ErrTwice, At: 30})
				checkFaults(t, after(one, other, other), api.Fault{Err: api.ErrTwice, At: 30}, api.Fault{Err: api.ErrTwice, At: 40})
				checkFaults(t, after(one, named(other, "K")))
				checkFaults(t, after(one, named(other, "k_")))
				faulty, err := spoiled(one)
				checkFaults(t, after(faulty, other), api.Fault{Err: err, At: 20}, api.Fault{Err: api.ErrTwice, At: 30})
				checkFaults(t, after(faulty, named(other, "l")), api.Fault{Err: err, At: 20})
				// An item whose name is in use already does not use it once more.
				checkFaults(t, after(one, faulty, named(other, "l")), api.Fault{Err: api.ErrTwice, At: 30})
			}
		}
		for k, b := range sorts {
			if i != k {
				checkFaults(t, after(a[0], b[0]))
				faulty, err := spoiled(a[0])
				checkFaults(t, after(faulty, b[0]), api.Fault{Err: err, At: 20})
			}
		}
	}
	// A kind that is none has no name.
	wrong := named(sorts[0][0], "k")
	wrong.Kind = 11
	checkFaults(t, after(wrong, sorts[0][0]), api.Fault{Err: api.ErrArg, At: 20})
}

// spoiled returns an item with a fault, apart from its name, and the error of this.
func spoiled(x api.Item) (api.Item, api.Errno) {
	x = copied(x)
	switch x.Kind {
	case api.ItemTable:
		x.Names = []string{"none"}
	case api.ItemOrigin:
		x.N = 101
		return x, api.ErrRange
	case api.ItemDeny:
		x.Vars[0].Table = "none"
	case api.ItemQuery:
		x.Expr = api.Expr{Kind: api.ExprTable, Table: "none", At: 20}
	default:
		x.Table = "none"
	}
	return x, api.ErrName
}
