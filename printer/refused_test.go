package printer_test

import (
	"math"
	"reflect"
	"slices"
	"strings"
	"testing"

	"cleanse/api"
	"cleanse/printer"
)

// notZero returns values of a type that are not zero, in each of its fields by itself. Offsets are left out.
func notZero(t reflect.Type) []reflect.Value {
	var out []reflect.Value
	switch t.Kind() {
	case reflect.Int:
		return []reflect.Value{reflect.ValueOf(1), reflect.ValueOf(-1), reflect.ValueOf(math.MaxInt)}
	case reflect.String:
		return []reflect.Value{reflect.ValueOf("x"), reflect.ValueOf("\x00")}
	case reflect.Bool:
		return []reflect.Value{reflect.ValueOf(true)}
	case reflect.Slice:
		one := reflect.MakeSlice(t, 1, 1)
		out = append(out, one)
		if t == reflect.TypeFor[[]api.Expr]() {
			kid := api.Expr{Kind: api.ExprTable, Table: "x"}
			return append(out, reflect.ValueOf([]api.Expr{kid}), reflect.ValueOf([]api.Expr{kid, kid}), reflect.ValueOf([]api.Expr{{At: 1}}))
		}
		for _, v := range notZero(t.Elem()) {
			list := reflect.MakeSlice(t, 1, 1)
			list.Index(0).Set(v)
			out = append(out, list)
		}
	case reflect.Struct:
		for i := range t.NumField() {
			if t.Field(i).Name == "At" {
				continue
			}
			for _, v := range notZero(t.Field(i).Type) {
				x := reflect.New(t).Elem()
				x.Field(i).Set(v)
				out = append(out, x)
			}
		}
	}
	return out
}

// checkOthers checks that an item is refused if one of the fields of a part of it is not zero, except those that are named.
func checkOthers(t *testing.T, x api.Item, part func(x *api.Item) any, fields string) {
	t.Helper()
	x = copied(x)
	v := reflect.ValueOf(part(&x)).Elem()
	count := 0
	for i := range v.NumField() {
		name := v.Type().Field(i).Name
		if slices.Contains(strings.Fields(fields), name) || name == "Kind" || name == "At" {
			continue
		}
		if !v.Field(i).IsZero() {
			t.Fatalf("%s: %s is not zero", show(x), name)
		}
		for _, other := range notZero(v.Field(i).Type()) {
			v.Field(i).Set(other)
			checkRefused(t, x)
			count++
		}
		v.Field(i).SetZero()
	}
	if count < 2 {
		t.Fatalf("%s: only %d other values", show(x), count)
	}
	checkText(t, program(x), printed(t, program(x)))
}

// itself is the part of an item that is the item.
func itself(x *api.Item) any { return x }

// P9.1: the fields that the kind of an item does not have are zero.
func TestOtherFieldsOfItems(t *testing.T) {
	for _, s := range samples() {
		fields := map[int]string{
			api.ItemTable:   "Name Columns Names",
			api.ItemOrigin:  "Name N",
			api.ItemMatch:   "Name Table N Terms",
			api.ItemKeep:    "Table Attr By",
			api.ItemUnique:  "Name Table Names",
			api.ItemDepend:  "Name Table Names Attr Fixed",
			api.ItemInclude: "Name Table Attr Other OtherAttr",
			api.ItemDeny:    "Name Vars Conds",
			api.ItemQuery:   "Name Expr",
		}[s.item.Kind]
		if s.item.Kind == api.ItemBlock {
			fields = [...]string{api.ByExact: "Name Table Attr By", api.ByToken: "Name Table Attr By", api.ByPrefix: "Name Table Attr By N", api.BySketch: "Name Table Attr By N M"}[s.item.By]
		}
		checkOthers(t, s.item, itself, fields)
	}
}

// P9.1: the fields that the kind of an expression does not have are zero, also in kids.
func TestOtherFieldsOfExpressions(t *testing.T) {
	fields := [...]string{api.ExprTable: "Table", api.ExprSelect: "Kids Conds", api.ExprProject: "Kids Names", api.ExprJoin: "Kids", api.ExprUnion: "Kids", api.ExprMinus: "Kids", api.ExprRename: "Kids Attr As", api.ExprGroup: "Kids Names Attr As Agg"}
	expr := func(x *api.Item) any { return &x.Expr }
	for _, x := range append(operations(relation("t"), relation("u")), relation("t")) {
		own := fields[x.Kind]
		if x.Agg == api.AggCount {
			own = "Kids Names As Agg"
		}
		checkOthers(t, query(x), expr, own)
		for _, outer := range operations(x, relation("u")) {
			checkOthers(t, query(outer), func(x *api.Item) any { return &x.Expr.Kids[0] }, own)
		}
		for _, outer := range operations(relation("u"), x) {
			if len(outer.Kids) == 2 {
				checkOthers(t, query(outer), func(x *api.Item) any { return &x.Expr.Kids[1] }, own)
			}
		}
	}
}

// P9.1: a constant has no names, and what is no constant has no value, on both sides.
func TestOtherFieldsOfSides(t *testing.T) {
	left := func(x *api.Item) any { return &x.Conds[0].Left }
	right := func(x *api.Item) any { return &x.Conds[0].Right }
	for _, v := range []api.Value{null, text(""), text("x"), number(0), number(5), day(5), flag(1)} {
		checkOthers(t, deny(cond(constant(v), attr("b"), 0)), left, "Const Value")
		checkOthers(t, deny(cond(attr("a"), constant(v), 0)), right, "Const Value")
	}
	for _, o := range []api.Operand{attr("a"), of("v", "a")} {
		x := deny(cond(o, o, 0))
		checkOthers(t, x, left, "Const Var Attr")
		checkOthers(t, x, right, "Const Var Attr")
		for _, side := range []func(x *api.Item) any{left, right} {
			changed := copied(x)
			side(&changed).(*api.Operand).Const = true
			checkRefused(t, changed)
		}
	}
}

// P9.1: only the measure near has a tolerance.
func TestOtherFieldsOfTerms(t *testing.T) {
	for measure := api.MeasureEqual; measure <= api.MeasureNear; measure++ {
		for _, tolerance := range []int{0, 1, mostNumber} {
			x := match(api.Term{Attr: "a", Measure: measure, Tolerance: tolerance})
			if measure == api.MeasureNear || tolerance == 0 {
				checkText(t, program(x), modelText(program(x)))
			} else {
				checkRefused(t, x)
			}
		}
	}
}

// notWritable returns constants that cannot be written.
func notWritable() []api.Value {
	out := []api.Value{text(strings.Repeat("x", 201)), text(strings.Repeat("\n", 201)), number(mostNumber + 1), number(-mostNumber - 1), number(math.MaxInt), number(math.MinInt), day(-1), day(mostNumber + 1), day(math.MinInt), flag(2), flag(-1), flag(math.MaxInt)}
	for _, n := range []int{1, -1, 7, math.MinInt} {
		out = append(out, api.Value{N: n}, api.Value{Kind: api.KindText, N: n}, api.Value{Kind: api.KindText, N: n, Text: "x"})
	}
	for _, kind := range []int{api.KindNull, api.KindNumber, api.KindDay, api.KindFlag} {
		for _, s := range []string{"x", "null", "1", "\x00"} {
			out = append(out, api.Value{Kind: kind, Text: s}, api.Value{Kind: kind, N: 1, Text: s})
		}
	}
	for _, kind := range []int{-1, 5, 6, math.MaxInt, math.MinInt} {
		out = append(out, api.Value{Kind: kind}, api.Value{Kind: kind, N: 1}, api.Value{Kind: kind, Text: "x"})
	}
	return out
}

// P9.1: wherever a constant stands, it is writable.
func TestConstantsThatAreNotWritable(t *testing.T) {
	for _, v := range notWritable() {
		checkRefused(t, columns(api.Column{Name: "a", Kind: api.KindText, Default: v}))
		checkRefused(t, columns(api.Column{Name: "a", Kind: api.KindText}, api.Column{Name: "b", Kind: api.KindText, Default: v}))
		checkRefused(t, api.Item{Kind: api.ItemDepend, Name: "d", Table: "t", Names: []string{"a"}, Attr: "b", Fixed: []api.Named{{Name: "c", Value: v}}})
		for _, c := range []api.Cond{cond(constant(v), attr("b"), 0), cond(attr("a"), constant(v), 0), cond(constant(v), constant(v), 5)} {
			checkRefused(t, deny(c))
			checkRefused(t, deny(cond(attr("a"), attr("b"), 0), c))
			checkRefused(t, query(api.Expr{Kind: api.ExprSelect, Kids: kids("t"), Conds: []api.Cond{c}}))
		}
	}
}

// P9.1: wherever a name stands, it is a letter with letters, digits and _ behind it, of at most 24 bytes.
func TestNoNames(t *testing.T) {
	none := []string{"", longName + "0", strings.Repeat("a", 25), strings.Repeat("a", 300), "0", "1a", "9", "_", "_a", " a", "a ", "a b", "a.b", "a-b", "a;", "a#", "a\n", "\ta", `"a"`, "é", "aé", "\xff", "a\x00", "=", "a/b", "a:b", "a@b", "a[b", "a`b", "a{b", "-1"}
	for _, s := range samples() {
		x := copied(s.item)
		count := 0
		for _, at := range placesOf(&x) {
			if !at.isName() || at.value.String() == "" {
				continue
			}
			old := at.value.String()
			for _, name := range none {
				if name != "" || at.field() != "Var" {
					at.value.SetString(name)
					checkRefused(t, x)
				}
			}
			at.value.SetString(old)
			count++
		}
		if count == 0 {
			t.Errorf("%s: no names", s.text)
		}
	}
}

// P9.1: any byte but a letter is refused at the beginning of a name, any byte but a letter, a digit and _ behind it.
func TestBytesOfNames(t *testing.T) {
	for c := range 256 {
		letter := c >= 'a' && c <= 'z' || c >= 'A' && c <= 'Z'
		for _, test := range []struct {
			name  string
			right bool
		}{
			{string([]byte{byte(c)}), letter},
			{string([]byte{byte(c), 'b'}), letter},
			{string([]byte{'b', byte(c)}), letter || c >= '0' && c <= '9' || c == '_'},
			{string([]byte{'b', byte(c), 'b'}), letter || c >= '0' && c <= '9' || c == '_'},
		} {
			if test.right {
				checkItem(t, origin(test.name), "source "+test.name+" trust 5;")
			} else {
				checkRefused(t, origin(test.name))
			}
		}
	}
}

// P9.1: a name may be missing where it is that of a variable; then the attribute comes first.
func TestMissingVariables(t *testing.T) {
	checkItem(t, deny(cond(of("", "a"), of("", "b"), 0)), "deny d t x where a = b;")
	checkRefused(t, deny(cond(of("v", ""), attr("b"), 0)))
	checkRefused(t, deny(cond(attr("a"), of("v", ""), 0)))
	checkRefused(t, deny(cond(attr("a"), attr(""), 0)))
}

// P9.1: a side does not begin with true, false or null, on both sides of any condition.
func TestValuesAsNames(t *testing.T) {
	for _, word := range []string{"true", "false", "null"} {
		for _, o := range []api.Operand{attr(word), of(word, "a"), of(word, word)} {
			for _, c := range []api.Cond{cond(o, attr("b"), 0), cond(attr("a"), o, 0), cond(o, constant(null), 3)} {
				checkRefused(t, deny(c))
				checkRefused(t, deny(cond(attr("a"), attr("b"), 0), c))
				checkRefused(t, query(api.Expr{Kind: api.ExprSelect, Kids: kids("t"), Conds: []api.Cond{c}}))
			}
		}
		checkItem(t, deny(cond(of("v", word), of("w", word), 0)), "deny d t x where v."+word+" = w."+word+";")
	}
}

// P9.1: the attributes of a group do not begin with "with"; those of a project may, and so may the others.
func TestWithAsName(t *testing.T) {
	group := func(names ...string) api.Item {
		return query(api.Expr{Kind: api.ExprGroup, Kids: kids("t"), Names: names, Agg: api.AggCount, As: "n"})
	}
	checkRefused(t, group("with"))
	checkRefused(t, group("with", "a"))
	checkRefused(t, group("with", "with"))
	checkItem(t, group("a", "with"), "query q = group(t on a, with with count as n);")
	checkItem(t, group("With"), "query q = group(t on With with count as n);")
	checkItem(t, query(api.Expr{Kind: api.ExprProject, Kids: kids("t"), Names: []string{"with", "a"}}), "query q = project(t on with, a);")
	checkItem(t, query(api.Expr{Kind: api.ExprGroup, Kids: kids("with"), Agg: api.AggSum, Attr: "with", As: "with"}), "query q = group(with on with sum with as with);")
}

// P9.1: wherever a number stands, it is from 0 to 9999999999; signed ones are at least -9999999999.
func TestNumbersBeyondLimits(t *testing.T) {
	for _, s := range samples() {
		x := copied(s.item)
		for _, at := range placesOf(&x) {
			if at.value.Kind() != reflect.Int || at.value.Int() <= 50 && at.value.Int() >= -50 {
				continue
			}
			old := at.value.Int()
			for _, n := range []int64{mostNumber + 1, -mostNumber - 1, math.MaxInt, math.MinInt, math.MinInt + 1} {
				at.value.SetInt(n)
				checkRefused(t, x)
			}
			if at.field() != "Add" && !at.isIn("Value") && !at.isIn("Default") {
				for _, n := range []int64{-1, -5, -mostNumber} {
					at.value.SetInt(n)
					checkRefused(t, x)
				}
			}
			at.value.SetInt(old)
		}
	}
	for _, n := range []int{-1, -mostNumber, mostNumber + 1, math.MinInt} {
		checkRefused(t, columns(api.Column{Name: "a", Kind: api.KindDay, Default: day(n)}))
		checkRefused(t, deny(cond(attr("a"), constant(day(n)), 0)))
		term := api.Term{Attr: "a", Measure: api.MeasureNear, Least: api.Ratio{Num: 1, Den: 1}}
		for _, set := range []func(t *api.Term){
			func(t *api.Term) { t.Tolerance = n },
			func(t *api.Term) { t.Least.Num = n },
			func(t *api.Term) { t.Least.Den = n },
			func(t *api.Term) { t.Gives = n },
			func(t *api.Term) { t.Takes = n },
		} {
			changed := term
			set(&changed)
			checkRefused(t, match(changed))
			checkRefused(t, match(term, changed))
		}
	}
}

// P9.1: lists that the grammar does not let be empty are not empty, the others may be.
func TestEmptyLists(t *testing.T) {
	mayBeEmpty := []string{".Terms", ".Fixed", ".Expr.Names"}
	for _, s := range samples() {
		x := copied(s.item)
		for _, at := range placesOf(&x) {
			if at.value.Kind() != reflect.Slice || at.value.Len() == 0 {
				continue
			}
			old := reflect.ValueOf(at.value.Interface())
			for _, empty := range []reflect.Value{reflect.Zero(old.Type()), reflect.MakeSlice(old.Type(), 0, 3), old.Slice(0, 0)} {
				at.value.Set(empty)
				if slices.Contains(mayBeEmpty, at.path) {
					checkText(t, program(x), modelText(program(x)))
				} else {
					checkRefused(t, x)
				}
			}
			at.value.Set(old)
		}
	}
}

// P9.1: tables have no kids, joins, unions and differences have two, and the other operations one.
func TestNumbersOfKids(t *testing.T) {
	for _, x := range append(operations(relation("t"), relation("u")), relation("t")) {
		right := len(x.Kids)
		for n := range 5 {
			x.Kids = kids("a", "b", "c", "d")[:n]
			if n == right {
				checkText(t, program(query(x)), modelText(program(query(x))))
			} else {
				checkRefused(t, query(x))
				checkRefused(t, query(api.Expr{Kind: api.ExprUnion, Kids: []api.Expr{relation("t"), x}}))
			}
		}
	}
}

// P9.1: kinds, ways, measures, comparisons and aggregates are among those of api, those of columns among those that the grammar has.
func TestNumbersBesideThoseOfApi(t *testing.T) {
	most := map[string]int64{".Kind": 10, ".Columns.Kind": 4, ".Terms.Measure": 5, ".Conds.Op": 4, ".Expr.Conds.Op": 4, ".Expr.Kind": 8, ".Expr.Kids.Kind": 8, ".Expr.Agg": 4}
	seen := map[string]bool{}
	for _, s := range samples() {
		x := copied(s.item)
		for _, at := range placesOf(&x) {
			last, isKnown := most[at.path], most[at.path] > 0
			if at.path == ".By" {
				last, isKnown = map[int]int64{api.ItemBlock: 4, api.ItemKeep: 6}[x.Kind], true
			}
			if !isKnown || at.value.Int() == 0 {
				continue
			}
			seen[at.path] = true
			old := at.value.Int()
			for _, n := range []int64{0, -1, last + 1, last + 2, math.MaxInt, math.MinInt} {
				at.value.SetInt(n)
				checkRefused(t, x)
			}
			at.value.SetInt(old)
		}
	}
	if len(seen) != len(most)+1 {
		t.Errorf("only %v", seen)
	}
}

// damages returns other values for a place.
func damages(at place) []any {
	switch at.value.Kind() {
	case reflect.Int:
		return []any{0, 1, -1, 2, 3, 4, 5, 6, 7, 8, 9, 10, 11, mostNumber, mostNumber + 1, -mostNumber, -mostNumber - 1, math.MaxInt, math.MinInt}
	case reflect.String:
		return []any{"", "x", "true", "false", "null", "with", "on", "t", "x.y", "1", "x, y", longName, longName + "_", "x;", "x# ", " x", strings.Repeat("x", 200), strings.Repeat("x", 201)}
	case reflect.Bool:
		return []any{!at.value.Bool()}
	}
	n := at.value.Len()
	out := []any{at.value.Slice(0, 0).Interface(), reflect.MakeSlice(at.value.Type(), 1, 1).Interface(), reflect.MakeSlice(at.value.Type(), 2, 2).Interface()}
	if n > 0 {
		out = append(out, at.value.Slice(0, n-1).Interface(), at.value.Slice(1, n).Interface(), reflect.AppendSlice(at.value, at.value).Interface(), reflect.Append(at.value, reflect.Zero(at.value.Type().Elem())).Interface())
	}
	return out
}

// checkModel checks that an item has the text of the model, or is refused if no text has it, and returns its error.
func checkModel(t *testing.T, x api.Item) api.Errno {
	t.Helper()
	if !isPrintable(program(x)) {
		checkError(t, program(x), api.ErrArg)
		return api.ErrArg
	}
	if got, want := printed(t, program(x)), modelText(program(x)); got != want {
		t.Fatalf("%s:\n%s, not\n%s", show(x), got, want)
	}
	return api.OK
}

// eachDamage calls a function with each sample with another value at each place.
func eachDamage(check func(s sample, x api.Item)) {
	for _, s := range samples() {
		x := copied(s.item)
		for _, at := range placesOf(&x) {
			old := reflect.ValueOf(at.value.Interface())
			for _, other := range damages(at) {
				at.value.Set(reflect.ValueOf(other))
				check(s, x)
			}
			at.value.Set(old)
		}
	}
}

// P9.1, P9.2, P9.3: each sample with another value at each place has the text of the model, or is refused if no text has this tree.
func TestDamagesAtEachPlace(t *testing.T) {
	counts := map[api.Errno]int{}
	eachDamage(func(_ sample, x api.Item) {
		counts[checkModel(t, x)]++
	})
	if counts[api.OK] < 1000 || counts[api.ErrArg] < 10000 {
		t.Errorf("errors: %v", counts)
	}
}

// P9.1, P9.2, P9.3: random trees with other values at some places, held against the model.
func TestDamagesOfRandomTrees(t *testing.T) {
	r := maker{random()}
	counts := map[api.Errno]int{}
	for range 20000 {
		x := copied(r.item())
		for range 1 + r.IntN(2) {
			list := placesOf(&x)
			at := list[r.IntN(len(list))]
			at.value.Set(reflect.ValueOf(pick(r.Rand, damages(at)...)))
			x = copied(x)
		}
		counts[checkModel(t, x)]++
	}
	if counts[api.OK] < 1000 || counts[api.ErrArg] < 10000 {
		t.Errorf("errors: %v", counts)
	}
}

// P9.1: one item that is not printable is enough, wherever it stands.
func TestRefusedAmongOthers(t *testing.T) {
	r := maker{random()}
	for range 1000 {
		p := r.program(1 + r.IntN(6))
		wrong := p.Items[0]
		wrong.Kind = pick(r.Rand, 0, 11, -1)
		p.Items[r.IntN(len(p.Items))] = wrong
		checkError(t, p, api.ErrArg)
	}
}

// P1: trees of any numbers, texts and lists have an error or a text.
func TestAnyTrees(t *testing.T) {
	r := maker{random()}
	var fill func(v reflect.Value, depth int)
	fill = func(v reflect.Value, depth int) {
		switch v.Kind() {
		case reflect.Struct:
			for i := range v.NumField() {
				fill(v.Field(i), depth)
			}
		case reflect.Slice:
			n := r.IntN(3)
			if depth == 0 {
				n = 0
			}
			v.Set(reflect.MakeSlice(v.Type(), n, n))
			for i := range n {
				fill(v.Index(i), depth-1)
			}
		default:
			list := damages(place{value: v})
			v.Set(reflect.ValueOf(list[r.IntN(len(list))]))
		}
	}
	for range 5000 {
		x := api.Item{}
		fill(reflect.ValueOf(&x).Elem(), 3)
		checkModel(t, x)
		x.Kind = 1 + r.IntN(10)
		checkModel(t, x)
		if text, err := printer.Print(program(x, x, x)); err != api.OK && text != "" {
			t.Fatalf("%s: %s and error %d", show(x), text, err)
		}
	}
}
