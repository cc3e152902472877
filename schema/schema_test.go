package schema_test

import (
	"fmt"
	"math"
	"reflect"
	"regexp"
	"slices"
	"strings"
	"testing"

	"cleanse/api"
	"cleanse/schema"
	"cleanse/value"
)

var null = api.Value{}

func text(s string) api.Value { return api.Value{Kind: api.KindText, Text: s} }

func number(n int) api.Value { return api.Value{Kind: api.KindNumber, N: n} }

func day(n int) api.Value { return api.Value{Kind: api.KindDay, N: n} }

func flag(n int) api.Value { return api.Value{Kind: api.KindFlag, N: n} }

// attr returns an attribute with former names.
func attr(name string, kind int, standard api.Value, was ...string) api.Attr {
	return api.Attr{Name: name, Kind: kind, Was: was, Default: standard}
}

// sample returns a valid schema, which is new each time. Its table full has as many attributes as a table can have; people and firms have names in common.
func sample() api.Schema {
	full := api.Table{Name: "full", Key: []int{0, 5, 11}}
	for i := range 12 {
		full.Attrs = append(full.Attrs, attr(fmt.Sprint("n", i), api.KindNumber, null, fmt.Sprint("was", i)))
	}
	return api.Schema{Tables: []api.Table{
		{Name: "people", Key: []int{1}, Attrs: []api.Attr{attr("name", api.KindText, null, "called"), attr("age", api.KindNumber, number(7), "years", "old"), attr("ok", api.KindFlag, flag(1)), attr("born", api.KindDay, null, "birth")}},
		{Name: "firms", Key: []int{0, 2}, Attrs: []api.Attr{attr("code", api.KindNumber, null), attr("name", api.KindText, text("x"), "years"), attr("since", api.KindDay, day(3), "born"), attr("open", api.KindFlag, null, "ok")}},
		full,
		{Name: "one", Key: []int{0}, Attrs: []api.Attr{attr("ref", api.KindText, null)}},
	}}
}

// rows returns rows of the table of the sample with an index, which fit it.
func rows(table int) [][]api.Value {
	full := slices.Repeat([]api.Value{number(3), null, number(-1)}, 4)
	return [][][]api.Value{
		{{text("ann"), number(7), flag(0), day(12)}, {text("12"), number(73049), flag(1), null}, {text("@5"), number(73048), null, day(0)}, {text("true"), null, flag(1), day(73048)}, {null, number(-1), flag(0), day(1)}, {text(strings.Repeat("x", 200)), number(1000000000), flag(0), day(9)}, {null, null, null, null}},
		{{number(1), text("false"), day(4), flag(0)}, {number(-2), text(""), null, flag(1)}, {null, null, day(7), null}, {number(5), text("1000000000"), day(0), flag(1)}},
		{full, slices.Repeat([]api.Value{null}, 12)},
		{{text("r")}, {text("null")}, {text("73048")}, {null}},
	}[table]
}

// values returns values that are valid and ones that are not, at the limits of all kinds.
func values() []api.Value {
	out := []api.Value{null, text(""), text("a"), text("12"), text("@12"), text("true"), text(strings.Repeat("x", 200)), text(strings.Repeat("x", 201)), {Kind: api.KindText, N: 1, Text: "a"}}
	for kind := api.KindNull; kind <= api.KindFlag+1; kind++ {
		for _, n := range []int{0, 1, -1, 2, 73048, 73049, 1000000000, 1000000001, -1000000000, -1000000001, math.MinInt, math.MaxInt} {
			out = append(out, api.Value{Kind: kind, N: n})
		}
		out = append(out, api.Value{Kind: kind, Text: "b"}, api.Value{Kind: kind, N: 1, Text: "b"})
	}
	return append(out, api.Value{Kind: -1}, api.Value{Kind: math.MinInt}, api.Value{Kind: math.MaxInt, N: 1})
}

// edgeKinds returns the kinds of attributes, and numbers of none.
func edgeKinds() []int {
	return []int{api.KindText, api.KindNumber, api.KindDay, api.KindFlag, api.KindNull, api.KindFlag + 1, api.KindFlag + 2, -1, -2, math.MinInt, math.MaxInt, 1<<32 + 1}
}

// show returns a text of a table by which tables can be told apart; the former names of an attribute are in brackets.
func show(t api.Table) string {
	var attrs []string
	for _, a := range t.Attrs {
		kind := fmt.Sprint(a.Kind)
		if a.Kind >= 0 && a.Kind < 5 {
			kind = []string{"null", "text", "number", "day", "flag"}[a.Kind]
		}
		standard := value.Text(a.Default)
		if standard == "" {
			standard = fmt.Sprintf("%#v", a.Default)
		}
		attrs = append(attrs, strings.Join([]string{a.Name + "[" + strings.Join(a.Was, " ") + "]", kind, standard}, " "))
	}
	return fmt.Sprintf("%s: %s; key %v", t.Name, strings.Join(attrs, ", "), t.Key)
}

// showAll returns a text of a schema by which schemas can be told apart.
func showAll(s api.Schema) string {
	var tables []string
	for _, t := range s.Tables {
		tables = append(tables, show(t))
	}
	return strings.Join(tables, "\n")
}

// numbers returns a function that returns numbers below a bound, always the same ones in the same order.
func numbers() func(bound int) int {
	state := uint64(12345)
	return func(bound int) int {
		state = state*6364136223846793005 + 1442695040888963407
		return int(state>>33) % bound
	}
}

var nameForm = regexp.MustCompile(`\A[A-Za-z][A-Za-z0-9_]{0,23}\z`)

// fitsModel reports whether a value fits an attribute, worked out apart from the program.
func fitsModel(a api.Attr, v api.Value) bool {
	return value.Valid(v) && slices.Contains([]int{api.KindNull, a.Kind}, v.Kind)
}

// tableModel reports whether a table can be one of a valid schema, worked out apart from the program.
func tableModel(t api.Table) bool {
	names := map[string]int{}
	for _, a := range t.Attrs {
		for _, name := range append([]string{a.Name}, a.Was...) {
			names[name]++
			if !nameForm.MatchString(name) || names[name] > 1 {
				return false
			}
		}
		if !slices.Contains(edgeKinds()[:4], a.Kind) || !fitsModel(a, a.Default) {
			return false
		}
	}
	sorted := slices.Compact(slices.Sorted(slices.Values(t.Key)))
	isIndex := func(i int) bool { return i >= 0 && i < len(t.Attrs) }
	strange := slices.ContainsFunc(t.Key, func(i int) bool { return !isIndex(i) })
	return nameForm.MatchString(t.Name) && isIndex(0) && len(t.Attrs) < 13 && len(t.Key) > 0 && slices.Equal(sorted, t.Key) && !strange
}

// validModel reports whether a schema is valid, worked out apart from the program.
func validModel(s api.Schema) bool {
	names := map[string]bool{}
	for _, t := range s.Tables {
		if !tableModel(t) {
			return false
		}
		names[t.Name] = true
	}
	return len(names) == len(s.Tables) && len(names) < 21
}

// findModel is Find, worked out apart from the program.
func findModel(s api.Schema, name string) int {
	found := -1
	for i := len(s.Tables) - 1; i >= 0; i-- {
		if s.Tables[i].Name == name {
			found = i
		}
	}
	return found
}

// columnModel is Column, worked out apart from the program.
func columnModel(t api.Table, name string) int {
	found := -1
	for _, isFormer := range []bool{true, false} {
		for i := len(t.Attrs) - 1; i >= 0; i-- {
			a := t.Attrs[i]
			if isFormer && slices.Contains(a.Was, name) || !isFormer && a.Name == name {
				found = i
			}
		}
	}
	return found
}

// formedModel reports whether a change is formed, worked out apart from the program.
func formedModel(c api.Change) bool {
	has := map[int]api.Change{
		api.ChangeAdd:    {Name: c.Name, To: c.To, Default: c.Default},
		api.ChangeDrop:   {Attr: c.Attr},
		api.ChangeRename: {Attr: c.Attr, Name: c.Name},
		api.ChangeCast:   {Attr: c.Attr, To: c.To, Default: c.Default},
	}
	only, isKnown := has[c.Kind]
	only.Kind, only.Table = c.Kind, c.Table
	return isKnown && only == c
}

// refusalModel returns the error of Apply for a change, worked out apart from the program.
func refusalModel(s api.Schema, c api.Change) api.Errno {
	if !validModel(s) || !formedModel(c) {
		return api.ErrArg
	}
	if findModel(s, c.Table) == -1 {
		return api.ErrNone
	}
	t := s.Tables[findModel(s, c.Table)]
	at := columnModel(t, c.Attr)
	isAdd, isRename, isCast := c.Kind == api.ChangeAdd, c.Kind == api.ChangeRename, c.Kind == api.ChangeCast
	switch {
	case !isAdd && at == -1:
		return api.ErrNone
	case (isAdd || isRename) && !nameForm.MatchString(c.Name):
		return api.ErrArg
	case (isAdd || isCast) && (c.To < 1 || c.To > 4 || !fitsModel(api.Attr{Kind: c.To}, c.Default)):
		return api.ErrArg
	case c.Kind == api.ChangeDrop && slices.Contains(t.Key, at), isCast && t.Attrs[at].Kind == c.To:
		return api.ErrArg
	case (isAdd || isRename) && columnModel(t, c.Name) != -1:
		return api.ErrTwice
	case isAdd && len(t.Attrs) == 12:
		return api.ErrLimit
	}
	return api.OK
}

// applyModel is Apply, worked out apart from the program. The key is found again by the names of its attributes.
func applyModel(s api.Schema, c api.Change) (api.Schema, api.Errno) {
	if err := refusalModel(s, c); err != api.OK {
		return api.Schema{}, err
	}
	var out api.Schema
	for _, t := range s.Tables {
		changed := api.Table{Name: t.Name}
		for i, a := range t.Attrs {
			isHit := t.Name == c.Table && c.Kind != api.ChangeAdd && i == columnModel(t, c.Attr)
			a.Was = slices.Clone(a.Was)
			if isHit && c.Kind == api.ChangeRename {
				a = api.Attr{Name: c.Name, Kind: a.Kind, Was: append(a.Was, a.Name), Default: a.Default}
			}
			if isHit && c.Kind == api.ChangeCast {
				a = api.Attr{Name: a.Name, Kind: c.To, Was: a.Was, Default: c.Default}
			}
			if !isHit || c.Kind != api.ChangeDrop {
				changed.Attrs = append(changed.Attrs, a)
			}
		}
		for _, i := range t.Key {
			changed.Key = append(changed.Key, columnModel(changed, t.Attrs[i].Name))
		}
		if t.Name == c.Table && c.Kind == api.ChangeAdd {
			changed.Attrs = append(changed.Attrs, api.Attr{Name: c.Name, Kind: c.To, Default: c.Default})
		}
		out.Tables = append(out.Tables, changed)
	}
	return out, api.OK
}

// fitsRowModel is Fits, worked out apart from the program.
func fitsRowModel(t api.Table, row []api.Value) bool {
	for i, a := range t.Attrs {
		if i >= len(row) || !fitsModel(a, row[i]) {
			return false
		}
	}
	return len(row) == len(t.Attrs)
}

// convertModel is Convert, worked out apart from the program. Each value of the table that changes is found by the name of its attribute.
func convertModel(s api.Schema, c api.Change, table int, row []api.Value) ([]api.Value, api.Errno) {
	after, err := applyModel(s, c)
	if err != api.OK {
		return nil, err
	}
	if table < 0 || table > len(s.Tables)-1 || !fitsRowModel(s.Tables[table], row) {
		return nil, api.ErrArg
	}
	var out []api.Value
	for _, a := range after.Tables[table].Attrs {
		at := columnModel(s.Tables[table], append(a.Was, a.Name)[0])
		if at == -1 {
			out = append(out, c.Default)
			continue
		}
		v := row[at]
		if a.Kind != s.Tables[table].Attrs[at].Kind {
			if v, err = value.Cast(v, a.Kind); err != api.OK {
				return nil, api.ErrFit
			}
		}
		out = append(out, v)
	}
	return out, api.OK
}

// checkApply checks that Apply agrees with the model.
func checkApply(t *testing.T, s api.Schema, c api.Change) {
	t.Helper()
	got, err := schema.Apply(s, c)
	want, wantErr := applyModel(s, c)
	if err != wantErr || showAll(got) != showAll(want) {
		t.Fatalf("%+v of\n%s\nis %d\n%s", c, showAll(s), err, showAll(got))
	}
}

// checkConvert checks that Convert agrees with the model.
func checkConvert(t *testing.T, s api.Schema, c api.Change, table int, row []api.Value) {
	t.Helper()
	got, err := schema.Convert(s, c, table, row)
	want, wantErr := convertModel(s, c, table, row)
	if err != wantErr || !slices.Equal(got, want) {
		t.Fatalf("%+v of\n%s\nmakes %d %v of the row %v of the table %d", c, showAll(s), err, got, row, table)
	}
}

// edgeNames returns texts that are names, and ones that are not: of all lengths around the limits, and with each byte at the beginning, at the end and in between.
func edgeNames() []string {
	out := []string{"", "é", "xé", "x y", " x", "x ", "_", "__", "_x", "0", "9x", "x9", "x_", "x__y", "X", "zZ", "x-y", "x.y", strings.Repeat("é", 12), strings.Repeat("x", 200), strings.Repeat("x", 1000), "x" + strings.Repeat("0", 23), "x" + strings.Repeat("0", 24), "x" + strings.Repeat("_", 23), "x" + strings.Repeat("_", 24), strings.Repeat("0", 24), strings.Repeat("x", 23) + " "}
	for c := range 256 {
		b := string([]byte{byte(c)})
		out = append(out, b, b+"q", "q"+b, "q"+b+"q", strings.Repeat("q", 23)+b)
	}
	for length := range 30 {
		out = append(out, strings.Repeat("x", length))
	}
	return out
}

// P6.1, Words: a name is a name in each place: of a table, of an attribute, and as a former name, at the beginning, in the middle or at the end.
func TestValidNames(t *testing.T) {
	for _, name := range edgeNames() {
		want := nameForm.MatchString(name)
		for i := range sample().Tables {
			s := sample()
			s.Tables[i].Name = name
			if got := schema.Valid(s); got != want {
				t.Fatalf("the table %d is called %q: %v", i, name, got)
			}
		}
		for i := range 4 {
			s, other := sample(), sample()
			s.Tables[0].Attrs[i].Name = name
			other.Tables[0].Attrs[i].Was = []string{"first", name, "last"}
			if got, former := schema.Valid(s), schema.Valid(other); got != want || former != want {
				t.Fatalf("the attribute %d is or was called %q: %v %v", i, name, got, former)
			}
			for k := range 3 {
				other.Tables[0].Attrs[i].Was = []string{"first", "second", "third"}
				other.Tables[0].Attrs[i].Was[k] = name
				if got := schema.Valid(other); got != want {
					t.Fatalf("the former name %d of the attribute %d is %q: %v", k, i, name, got)
				}
			}
		}
	}
}

// P6.1, Words: names of 1 and of 24 bytes are names; the empty one, ones of 25 bytes, and ones that begin with a digit or _ or have other bytes are none.
func TestValidNamesExamples(t *testing.T) {
	for name, want := range map[string]bool{"x": true, "Z": true, "aB_9": true, "x0123456789012345678_abc": true, "x0123456789012345678_abcd": false, "": false, "1x": false, "_x": false, "x y": false, "x\x00": false, "é": false, "x-": false, "x\n": false} {
		s := sample()
		s.Tables[3].Name = name
		if got := schema.Valid(s); got != want {
			t.Errorf("a table is called %q: %v", name, got)
		}
		_, added := schema.Apply(sample(), api.Change{Kind: api.ChangeAdd, Table: "one", Name: name, To: api.KindDay})
		_, renamed := schema.Apply(sample(), api.Change{Kind: api.ChangeRename, Table: "one", Attr: "ref", Name: name})
		if (added == api.OK) != want || (renamed == api.OK) != want || !want && (added != api.ErrArg || renamed != api.ErrArg) {
			t.Errorf("an attribute gets the name %q: %d %d", name, added, renamed)
		}
	}
}

// tables returns a schema of some tables with different names.
func tables(n int) api.Schema {
	var s api.Schema
	for i := range n {
		s.Tables = append(s.Tables, api.Table{Name: fmt.Sprint("t", i), Key: []int{0}, Attrs: []api.Attr{attr("ref", api.KindText, null, "id")}})
	}
	return s
}

// P6.1, F1: no tables and up to 20 are valid, 21 and more are not; the same name of any two tables is not valid, of a table and attributes it is.
func TestValidTables(t *testing.T) {
	for n := range 45 {
		if got := schema.Valid(tables(n)); got != (n < 21) {
			t.Errorf("%d tables: %v", n, got)
		}
	}
	if !schema.Valid(api.Schema{Tables: []api.Table{}}) || !schema.Valid(api.Schema{}) {
		t.Error("no tables")
	}
	for i := range 20 {
		for k := range i {
			s := tables(20)
			s.Tables[i].Name = s.Tables[k].Name
			if schema.Valid(s) {
				t.Errorf("the tables %d and %d have the same name", k, i)
			}
			s.Tables[i].Name = strings.ToUpper(s.Tables[k].Name)
			if !schema.Valid(s) {
				t.Errorf("the tables %d and %d have names that differ", k, i)
			}
		}
		s := tables(20)
		s.Tables[i].Name = "ref"
		s.Tables[(i+1)%20].Name = "id"
		if !schema.Valid(s) {
			t.Errorf("the table %d is called like an attribute", i)
		}
	}
}

// P6.1, F1: one table that is not valid, at any place, makes a schema not valid.
func TestValidEachTable(t *testing.T) {
	for n := 1; n <= 20; n++ {
		for i := range n {
			for _, spoil := range []func(t *api.Table){
				func(t *api.Table) { t.Name = "" }, func(t *api.Table) { t.Key = nil }, func(t *api.Table) { t.Attrs = nil }, func(t *api.Table) { t.Attrs[0].Kind = 0 }, func(t *api.Table) { t.Attrs[0].Name = "id" }, func(t *api.Table) { t.Attrs[0].Default = day(1) }, func(t *api.Table) { *t = api.Table{} },
			} {
				s := tables(n)
				spoil(&s.Tables[i])
				if schema.Valid(s) {
					t.Errorf("%s", showAll(s))
				}
			}
		}
	}
}

// wide returns a schema with one table of some attributes.
func wide(n int) api.Schema {
	table := api.Table{Name: "t", Key: []int{0}}
	for i := range n {
		table.Attrs = append(table.Attrs, attr(fmt.Sprint("n", i), 1+i%4, null, fmt.Sprint("was", i), fmt.Sprint("old", i)))
	}
	return api.Schema{Tables: []api.Table{table}}
}

// P6.1, F1: a table has 1 to 12 attributes.
func TestValidNumbersOfAttrs(t *testing.T) {
	for n := range 30 {
		if got := schema.Valid(wide(n)); got != (n >= 1 && n <= 12) {
			t.Errorf("%d attributes: %v", n, got)
		}
	}
	s := wide(0)
	s.Tables[0].Key = nil
	if schema.Valid(s) {
		t.Error("no attributes and no key")
	}
}

// nameAt returns the place of a name of an attribute: its name, or one of its two former names.
func nameAt(a *api.Attr, place int) *string {
	if place == 0 {
		return &a.Name
	}
	return &a.Was[place-1]
}

// P6.1, F1: all names and former names of a table are different, within an attribute and between any two; case makes a difference.
func TestValidDifferentNames(t *testing.T) {
	for _, n := range []int{1, 2, 3, 12} {
		for one := range 3 * n {
			for other := range one {
				s := wide(n)
				attrs := s.Tables[0].Attrs
				name := *nameAt(&attrs[other/3], other%3)
				*nameAt(&attrs[one/3], one%3) = name
				if schema.Valid(s) {
					t.Fatalf("%q is there twice:\n%s", name, showAll(s))
				}
				*nameAt(&attrs[one/3], one%3) = strings.ToUpper(name)
				if !schema.Valid(s) {
					t.Fatalf("%q and its capitals are not the same:\n%s", name, showAll(s))
				}
			}
		}
	}
}

// P6.1, F1: attributes of different tables may have the same names and former ones.
func TestValidNamesOfOtherTables(t *testing.T) {
	s := wide(12)
	for i := range 3 {
		other := wide(12).Tables[0]
		other.Name = fmt.Sprint("u", i)
		for k := range other.Attrs {
			a := &other.Attrs[k]
			a.Name, a.Was[0], a.Was[1] = *nameAt(a, i%3), *nameAt(a, (i+1)%3), *nameAt(a, (i+2)%3)
		}
		s.Tables = append(s.Tables, other)
	}
	if !schema.Valid(s) {
		t.Errorf("%s", showAll(s))
	}
}

// P6.1, F1: the kinds of attributes, and Default: null, of the kind, of another kind, or not valid, for the first, the middle and the last attribute.
func TestValidKindsAndDefaults(t *testing.T) {
	for _, kind := range edgeKinds() {
		for _, v := range values() {
			for i := range 3 {
				s := wide(3)
				s.Tables[0].Attrs[i].Kind, s.Tables[0].Attrs[i].Default = kind, v
				want := kind >= 1 && kind <= 4 && value.Valid(v) && (v.Kind == 0 || v.Kind == kind)
				if got := schema.Valid(s); got != want {
					t.Errorf("the attribute %d has the kind %d and Default %#v: %v", i, kind, v, got)
				}
			}
		}
	}
}

// lists returns all lists of some integers up to a length.
func lists(length int, integers []int) [][]int {
	out := [][]int{nil}
	if length == 0 {
		return out
	}
	for _, n := range integers {
		for _, rest := range lists(length-1, integers) {
			out = append(out, append([]int{n}, rest...))
		}
	}
	return out
}

// P6.1, F1: the keys of tables of 1 to 3 attributes: of all lists, those in increasing order without indices that are too great or negative, and not the empty one.
func TestValidKeys(t *testing.T) {
	valid := map[int][]string{1: {"[0]"}, 2: {"[0]", "[1]", "[0 1]"}, 3: {"[0]", "[1]", "[2]", "[0 1]", "[0 2]", "[1 2]", "[0 1 2]"}}
	for n, keys := range valid {
		for _, key := range lists(4, []int{-1, 0, 1, 2, 3, math.MinInt, math.MaxInt}) {
			s := wide(n)
			s.Tables[0].Key = key
			if got := schema.Valid(s); got != slices.Contains(keys, fmt.Sprint(key)) {
				t.Errorf("the key %v of %d attributes: %v", key, n, got)
			}
		}
	}
}

// P6.1, F1: long keys of a table with 12 attributes.
func TestValidLongKeys(t *testing.T) {
	all := []int{0, 1, 2, 3, 4, 5, 6, 7, 8, 9, 10, 11}
	for i := range all {
		s := wide(12)
		for _, key := range [][]int{all[:i+1], all[i:], {i}} {
			s.Tables[0].Key = key
			if !schema.Valid(s) {
				t.Errorf("the key %v", key)
			}
		}
		for _, key := range [][]int{slices.Insert(slices.Clone(all), i, all[i]), append(slices.Clone(all[i:]), 12), append([]int{-1}, all[:i]...), append(slices.Clone(all[i:]), i)} {
			s.Tables[0].Key = key
			if schema.Valid(s) {
				t.Errorf("the key %v", key)
			}
		}
	}
}

// P6.1, F2: Find and Column by examples, also where several tables or attributes have a name, or there are none.
func TestFindAndColumnExamples(t *testing.T) {
	s := sample()
	for name, want := range map[string]int{"people": 0, "firms": 1, "full": 2, "one": 3, "": -1, "People": -1, "peopl": -1, "people ": -1, "name": -1, "years": -1} {
		if got := schema.Find(s, name); got != want {
			t.Errorf("Find of %q: %d", name, got)
		}
	}
	for name, want := range map[string]int{"name": 0, "called": 0, "age": 1, "years": 1, "old": 1, "ok": 2, "born": 3, "birth": 3, "": -1, "Name": -1, "year": -1, "people": -1, "open": -1} {
		if got := schema.Column(s.Tables[0], name); got != want {
			t.Errorf("Column of %q: %d", name, got)
		}
	}
	if schema.Find(api.Schema{}, "t") != -1 || schema.Find(api.Schema{}, "") != -1 || schema.Column(api.Table{}, "x") != -1 || schema.Column(api.Table{Name: "x"}, "") != -1 {
		t.Error("something is found where nothing is")
	}
	twice := api.Schema{Tables: []api.Table{{Name: "a"}, {Name: ""}, {Name: "b"}, {Name: "b"}, {Name: ""}}}
	if schema.Find(twice, "b") != 2 || schema.Find(twice, "") != 1 || schema.Find(twice, "a") != 0 {
		t.Error("not the first table with the name")
	}
	table := api.Table{Attrs: []api.Attr{attr("a", 1, null, "x", "b"), attr("b", 1, null, "y", "c"), attr("b", 1, null, "x", "c", "y"), attr("", 1, null, "a", "")}}
	for name, want := range map[string]int{"a": 0, "b": 1, "x": 0, "c": 1, "y": 1, "": 3} {
		if got := schema.Column(table, name); got != want {
			t.Errorf("Column of %q, which is there several times: %d", name, got)
		}
	}
}

// P6.1, F2: Find and Column agree with the models for tables in which names come several times.
func TestFindAndColumnAgree(t *testing.T) {
	next, names := numbers(), []string{"", "a", "b", "ab", "A"}
	for range 5000 {
		var table api.Table
		var s api.Schema
		for range next(5) {
			a := attr(names[next(5)], 1, null)
			for range next(4) {
				a.Was = append(a.Was, names[next(5)])
			}
			table.Attrs = append(table.Attrs, a)
			s.Tables = append(s.Tables, api.Table{Name: names[next(5)]})
		}
		for _, name := range names {
			if got := schema.Column(table, name); got != columnModel(table, name) {
				t.Fatalf("Column(%s, %q): %d", show(table), name, got)
			}
			if got := schema.Find(s, name); got != findModel(s, name) {
				t.Fatalf("Find(%s, %q): %d", showAll(s), name, got)
			}
		}
	}
}

// P6.1, F1: a value fits an attribute if it is valid, and null or of its kind; also if there is no such kind.
func TestFitsEachKind(t *testing.T) {
	for _, kind := range edgeKinds() {
		for _, v := range values() {
			want := value.Valid(v) && (v.Kind == api.KindNull || v.Kind == kind)
			for i := range 3 {
				table := wide(3).Tables[0]
				table.Attrs[i].Kind = kind
				row := []api.Value{null, null, null}
				row[i] = v
				if got := schema.Fits(table, row); got != want {
					t.Errorf("%#v and the kind %d of the attribute %d: %v", v, kind, i, got)
				}
			}
		}
	}
}

// P6.1, F1: a row has one value for each attribute: not more, not fewer.
func TestFitsEachLength(t *testing.T) {
	for n := range 14 {
		var table api.Table
		if n > 0 {
			table = wide(n).Tables[0]
		}
		for length := range 30 {
			if got := schema.Fits(table, make([]api.Value, length)); got != (n == length) {
				t.Errorf("%d values and %d attributes: %v", length, n, got)
			}
		}
	}
	if !schema.Fits(api.Table{}, nil) || schema.Fits(wide(1).Tables[0], nil) {
		t.Error("no values")
	}
	for i, table := range sample().Tables {
		for _, row := range rows(i) {
			if !schema.Fits(table, row) || schema.Fits(table, row[1:]) || schema.Fits(table, append(slices.Clone(row), null)) {
				t.Errorf("%v does not fit %s", row, show(table))
			}
		}
	}
}

// change returns a change with these fields.
func change(kind int, table, attr, name string, to int, standard api.Value) api.Change {
	return api.Change{Kind: kind, Table: table, Attr: attr, Name: name, To: to, Default: standard}
}

func add(table, name string, to int, standard api.Value) api.Change {
	return change(api.ChangeAdd, table, "", name, to, standard)
}

func drop(table, attr string) api.Change { return change(api.ChangeDrop, table, attr, "", 0, null) }

func rename(table, attr, name string) api.Change {
	return change(api.ChangeRename, table, attr, name, 0, null)
}

func cast(table, attr string, to int, standard api.Value) api.Change {
	return change(api.ChangeCast, table, attr, "", to, standard)
}

// P6.1, P6.2, F3: each kind of change on the first, a middle and the last attribute, found by its name and by a former one.
func TestApplyExamples(t *testing.T) {
	for _, test := range []struct {
		c    api.Change
		want string
	}{
		{add("people", "fresh", api.KindDay, null), "people: name[called] text null, age[years old] number 7, ok[] flag true, born[birth] day null, fresh[] day null; key [1]"},
		{add("people", "Name", api.KindFlag, flag(0)), "people: name[called] text null, age[years old] number 7, ok[] flag true, born[birth] day null, Name[] flag false; key [1]"},
		{add("one", "one", api.KindText, text("")), `one: ref[] text null, one[] text ""; key [0]`},
		{add("one", "age", api.KindNumber, number(-5)), `one: ref[] text null, age[] number -5; key [0]`},
		{drop("people", "name"), "people: age[years old] number 7, ok[] flag true, born[birth] day null; key [0]"},
		{drop("people", "called"), "people: age[years old] number 7, ok[] flag true, born[birth] day null; key [0]"},
		{drop("people", "ok"), "people: name[called] text null, age[years old] number 7, born[birth] day null; key [1]"},
		{drop("people", "born"), "people: name[called] text null, age[years old] number 7, ok[] flag true; key [1]"},
		{drop("people", "birth"), "people: name[called] text null, age[years old] number 7, ok[] flag true; key [1]"},
		{drop("firms", "years"), "firms: code[] number null, since[born] day @3, open[ok] flag null; key [0 1]"},
		{drop("firms", "open"), `firms: code[] number null, name[years] text "x", since[born] day @3; key [0 2]`},
		{rename("people", "name", "full"), "people: full[called name] text null, age[years old] number 7, ok[] flag true, born[birth] day null; key [1]"},
		{rename("people", "years", "x"), "people: name[called] text null, x[years old age] number 7, ok[] flag true, born[birth] day null; key [1]"},
		{rename("people", "old", "x"), "people: name[called] text null, x[years old age] number 7, ok[] flag true, born[birth] day null; key [1]"},
		{rename("people", "ok", "fine"), "people: name[called] text null, age[years old] number 7, fine[ok] flag true, born[birth] day null; key [1]"},
		{rename("people", "birth", "Born"), "people: name[called] text null, age[years old] number 7, ok[] flag true, Born[birth born] day null; key [1]"},
		{rename("firms", "born", "age"), `firms: code[] number null, name[years] text "x", age[born since] day @3, open[ok] flag null; key [0 2]`},
		{cast("people", "called", api.KindNumber, null), "people: name[called] number null, age[years old] number 7, ok[] flag true, born[birth] day null; key [1]"},
		{cast("people", "age", api.KindText, text("?")), `people: name[called] text null, age[years old] text "?", ok[] flag true, born[birth] day null; key [1]`},
		{cast("people", "old", api.KindDay, day(73048)), "people: name[called] text null, age[years old] day @73048, ok[] flag true, born[birth] day null; key [1]"},
		{cast("people", "ok", api.KindText, null), "people: name[called] text null, age[years old] number 7, ok[] text null, born[birth] day null; key [1]"},
		{cast("people", "born", api.KindFlag, flag(1)), "people: name[called] text null, age[years old] number 7, ok[] flag true, born[birth] flag true; key [1]"},
	} {
		s := sample()
		s.Tables[schema.Find(s, test.c.Table)] = api.Table{}
		others := showAll(s)
		got, err := schema.Apply(sample(), test.c)
		if err != api.OK || len(got.Tables) != 4 {
			t.Errorf("%+v: %d %d tables", test.c, err, len(got.Tables))
			continue
		}
		at := schema.Find(got, test.c.Table)
		if show(got.Tables[at]) != test.want || !schema.Valid(got) {
			t.Errorf("%+v: %s", test.c, show(got.Tables[at]))
		}
		if got.Tables[at] = (api.Table{}); showAll(got) != others {
			t.Errorf("%+v changes another table", test.c)
		}
	}
}

// P6.1, F3, F4: the examples of the chapter.
func TestChapterExamples(t *testing.T) {
	s := api.Schema{Tables: []api.Table{{Name: "t", Key: []int{0}, Attrs: []api.Attr{attr("name", api.KindText, null), attr("age", api.KindNumber, null, "years")}}}}
	row := []api.Value{text("ann"), number(7)}
	for _, test := range []struct {
		c       api.Change
		table   string
		err     api.Errno
		row     []api.Value
		fitness api.Errno
	}{
		{add("t", "born", api.KindDay, null), "t: name[] text null, age[years] number null, born[] day null; key [0]", api.OK, []api.Value{text("ann"), number(7), null}, api.OK},
		{drop("t", "years"), "t: name[] text null; key [0]", api.OK, []api.Value{text("ann")}, api.OK},
		{drop("t", "name"), "", api.ErrArg, nil, api.ErrArg},
		{rename("t", "age", "years"), "", api.ErrTwice, nil, api.ErrTwice},
		{cast("t", "age", api.KindText, null), "t: name[] text null, age[years] text null; key [0]", api.OK, []api.Value{text("ann"), text("7")}, api.OK},
		{cast("t", "name", api.KindNumber, null), "t: name[] number null, age[years] number null; key [0]", api.OK, nil, api.ErrFit},
	} {
		if got, err := schema.Apply(s, test.c); err != test.err || showAll(got) != test.table {
			t.Errorf("%+v: %d %s", test.c, err, showAll(got))
		}
		if got, err := schema.Convert(s, test.c, 0, row); err != test.fitness || !slices.Equal(got, test.row) {
			t.Errorf("%+v: %d %v", test.c, err, got)
		}
	}
}

// P6.1, P1, F3: each error, and where several apply, the one that is named first. Convert has the same one, even if there is no such table or the row does not fit.
func TestApplyErrors(t *testing.T) {
	for _, test := range []struct {
		c    api.Change
		want api.Errno
	}{
		{change(0, "one", "ref", "", 0, null), api.ErrArg}, {change(5, "one", "ref", "", 0, null), api.ErrArg}, {change(-1, "one", "", "", 0, null), api.ErrArg}, {change(math.MaxInt, "one", "", "", 0, null), api.ErrArg}, {change(math.MinInt, "one", "", "x", 1, null), api.ErrArg}, {api.Change{}, api.ErrArg}, {change(0, "nowhere", "", "", 0, null), api.ErrArg},
		{add("nowhere", "x", 1, null), api.ErrNone}, {drop("nowhere", "name"), api.ErrNone}, {rename("nowhere", "name", "x"), api.ErrNone}, {cast("nowhere", "name", 2, null), api.ErrNone}, {drop("", "name"), api.ErrNone}, {drop("People", "name"), api.ErrNone}, {drop("name", "name"), api.ErrNone},
		{drop("people", "nobody"), api.ErrNone}, {rename("people", "nobody", "x"), api.ErrNone}, {cast("people", "nobody", 2, null), api.ErrNone}, {drop("people", ""), api.ErrNone}, {rename("people", "", "x"), api.ErrNone}, {cast("people", "", 2, null), api.ErrNone}, {drop("people", "code"), api.ErrNone}, {drop("people", "Name"), api.ErrNone},
		{add("people", "", 1, null), api.ErrArg}, {add("people", "1", 1, null), api.ErrArg}, {rename("people", "name", ""), api.ErrArg}, {rename("people", "name", "a b"), api.ErrArg},
		{add("people", "x", 0, null), api.ErrArg}, {add("people", "x", 5, null), api.ErrArg}, {add("people", "x", -1, null), api.ErrArg}, {add("people", "x", 1, number(1)), api.ErrArg}, {add("people", "x", 2, text("1")), api.ErrArg}, {add("people", "x", 3, day(73049)), api.ErrArg}, {add("people", "x", 1, api.Value{N: 1}), api.ErrArg},
		{cast("people", "name", 0, null), api.ErrArg}, {cast("people", "name", 5, null), api.ErrArg}, {cast("people", "name", -1, null), api.ErrArg}, {cast("people", "name", 2, text("1")), api.ErrArg}, {cast("people", "name", 4, flag(2)), api.ErrArg}, {cast("people", "name", 2, api.Value{Text: "x"}), api.ErrArg}, {cast("people", "name", 1, null), api.ErrArg}, {cast("people", "years", 2, number(1)), api.ErrArg}, {cast("people", "ok", 4, null), api.ErrArg}, {cast("people", "birth", 3, null), api.ErrArg},
		{drop("people", "age"), api.ErrArg}, {drop("people", "old"), api.ErrArg}, {drop("firms", "code"), api.ErrArg}, {drop("firms", "born"), api.ErrArg}, {drop("one", "ref"), api.ErrArg}, {drop("full", "n11"), api.ErrArg}, {drop("full", "was5"), api.ErrArg},
		{add("people", "name", 1, null), api.ErrTwice}, {add("people", "called", 1, null), api.ErrTwice}, {add("people", "birth", 1, null), api.ErrTwice}, {rename("people", "age", "name"), api.ErrTwice}, {rename("people", "age", "born"), api.ErrTwice}, {rename("people", "age", "birth"), api.ErrTwice}, {rename("people", "name", "name"), api.ErrTwice}, {rename("people", "name", "called"), api.ErrTwice}, {rename("people", "old", "years"), api.ErrTwice},
		{add("full", "x", 1, null), api.ErrLimit}, {add("full", "full", 4, flag(1)), api.ErrLimit},
		{change(2, "nowhere", "name", "x", 0, null), api.ErrArg}, {change(1, "nowhere", "name", "x", 1, null), api.ErrArg}, {change(4, "people", "nobody", "x", 2, null), api.ErrArg}, {change(3, "people", "nobody", "x", 2, null), api.ErrArg}, {change(1, "people", "ok", "name", 1, null), api.ErrArg}, {change(3, "people", "ok", "name", 1, null), api.ErrArg}, {change(1, "full", "n1", "x", 1, null), api.ErrArg},
		{add("nowhere", "1", 1, null), api.ErrNone}, {add("nowhere", "x", 7, null), api.ErrNone}, {add("nowhere", "x", 1, day(1)), api.ErrNone}, {rename("nowhere", "name", "1"), api.ErrNone}, {cast("nowhere", "name", 0, null), api.ErrNone}, {rename("people", "nobody", "1"), api.ErrNone}, {rename("people", "nobody", "name"), api.ErrNone}, {cast("people", "nobody", 0, null), api.ErrNone}, {cast("people", "nobody", 2, day(1)), api.ErrNone},
		{add("people", "name", 0, null), api.ErrArg}, {add("people", "called", 1, day(1)), api.ErrArg}, {add("full", "1", 1, null), api.ErrArg}, {add("full", "x", 9, null), api.ErrArg}, {add("full", "x", 1, day(1)), api.ErrArg}, {add("full", "n3", 1, day(1)), api.ErrArg}, {add("full", "n3", 1, null), api.ErrTwice}, {add("full", "was11", 1, null), api.ErrTwice}, {rename("full", "n3", "n3"), api.ErrTwice},
	} {
		if got, err := schema.Apply(sample(), test.c); err != test.want || len(got.Tables) != 0 {
			t.Errorf("%+v: %d\n%s", test.c, err, showAll(got))
		}
		for table := -1; table <= 4; table++ {
			for _, row := range [][]api.Value{nil, rows(0)[0], rows(1)[0], rows(3)[0], {number(1)}} {
				if got, err := schema.Convert(sample(), test.c, table, row); err != test.want || len(got) != 0 {
					t.Errorf("%+v of %v in the table %d: %d %v", test.c, row, table, err, got)
				}
			}
		}
	}
}

// P6.1, Words: a change of which one field that its kind does not have is not zero is not formed; ErrArg comes before ErrNone.
func TestUnformedChanges(t *testing.T) {
	formed := map[int]api.Change{api.ChangeAdd: add("people", "x", 1, null), api.ChangeDrop: drop("people", "name"), api.ChangeRename: rename("people", "name", "x"), api.ChangeCast: cast("people", "name", 2, null)}
	name := func(c *api.Change) { c.Name = "x" }
	to := func(c *api.Change) { c.To = 1 }
	negative := func(c *api.Change) { c.To = -1 }
	kind := func(c *api.Change) { c.Default.Kind = 1 }
	n := func(c *api.Change) { c.Default.N = -1 }
	content := func(c *api.Change) { c.Default.Text = "x" }
	attr := func(c *api.Change) { c.Attr = "name" }
	nobody := func(c *api.Change) { c.Attr = "nobody" }
	spoils := map[int][]func(c *api.Change){api.ChangeAdd: {attr, nobody}, api.ChangeDrop: {name, to, negative, kind, n, content}, api.ChangeRename: {to, negative, kind, n, content}, api.ChangeCast: {name}}
	for kind, c := range formed {
		if _, err := schema.Apply(sample(), c); err != api.OK {
			t.Errorf("%+v: %d", c, err)
		}
		for i, spoil := range spoils[kind] {
			for _, table := range []string{"people", "nowhere"} {
				spoiled := c
				spoiled.Table = table
				spoil(&spoiled)
				if got, err := schema.Apply(sample(), spoiled); err != api.ErrArg || len(got.Tables) != 0 {
					t.Errorf("%d: %+v: %d", i, spoiled, err)
				}
				if got, err := schema.Convert(sample(), spoiled, 0, rows(0)[0]); err != api.ErrArg || len(got) != 0 {
					t.Errorf("%d: %+v of a row: %d %v", i, spoiled, err, got)
				}
			}
		}
	}
}

// invalidSchemas returns schemas that are not valid, in which there are the tables of the sample.
func invalidSchemas() []api.Schema {
	var out []api.Schema
	for _, spoil := range []func(s *api.Schema){
		func(s *api.Schema) { s.Tables[3].Name = "" }, func(s *api.Schema) { s.Tables[3].Name = "people" }, func(s *api.Schema) { s.Tables[3].Key = nil }, func(s *api.Schema) { s.Tables[0].Key = []int{2, 0} }, func(s *api.Schema) { s.Tables[0].Key = []int{4} }, func(s *api.Schema) { s.Tables[0].Key = []int{-1, 0} }, func(s *api.Schema) { s.Tables[0].Attrs[0].Name = "years" }, func(s *api.Schema) { s.Tables[1].Attrs[0].Kind = 0 }, func(s *api.Schema) { s.Tables[1].Attrs[3].Kind = 5 }, func(s *api.Schema) { s.Tables[0].Attrs[0].Default = number(0) }, func(s *api.Schema) { s.Tables[0].Attrs[0].Default.N = 1 }, func(s *api.Schema) { s.Tables[0].Attrs[0].Was = []string{"a b"} }, func(s *api.Schema) { s.Tables[3].Attrs = nil }, func(s *api.Schema) { s.Tables = append(s.Tables, tables(17).Tables...) }, func(s *api.Schema) {
			s.Tables[2].Attrs = append(s.Tables[2].Attrs, attr("more", 1, null))
		},
	} {
		s := sample()
		spoil(&s)
		out = append(out, s)
	}
	return out
}

// P6.1, F3, F4: a schema that is not valid has ErrArg, whatever the change is; also if the table that changes is as it should be.
func TestChangesOfInvalidSchemas(t *testing.T) {
	for i, s := range invalidSchemas() {
		if schema.Valid(s) {
			t.Fatalf("%d is valid", i)
		}
		for _, c := range append(goodChanges(t), drop("nowhere", "x"), drop("people", "nobody"), add("full", "x", 1, null), add("people", "name", 1, null)) {
			if got, err := schema.Apply(s, c); err != api.ErrArg || len(got.Tables) != 0 {
				t.Fatalf("%d: %+v: %d", i, c, err)
			}
			if got, err := schema.Convert(s, c, 0, rows(0)[0]); err != api.ErrArg || len(got) != 0 {
				t.Fatalf("%d: %+v of a row: %d", i, c, err)
			}
		}
	}
}

// P6.1, P1, F3: Apply agrees with the model for all combinations of many fields.
func TestApplyAgrees(t *testing.T) {
	s := sample()
	next := numbers()
	for _, kind := range []int{0, api.ChangeAdd, api.ChangeDrop, api.ChangeRename, api.ChangeCast, 5} {
		for _, table := range []string{"people", "firms", "full", "one", "nowhere"} {
			for _, attr := range []string{"", "name", "years", "ok", "born", "n0", "was4", "ref", "nobody"} {
				for _, name := range []string{"", "x", "name", "born", "n7", "1", strings.Repeat("x", 24), strings.Repeat("x", 25)} {
					for _, to := range []int{-1, 0, 1, 2, 3, 4, 5} {
						for _, standard := range []api.Value{null, text("x"), number(3), day(4), flag(1), {N: 1}, {Kind: 4, N: 2}} {
							if c := change(kind, table, attr, name, to, standard); formedModel(c) || next(20) == 0 {
								checkApply(t, s, c)
							}
						}
					}
				}
			}
		}
	}
}

// goodChanges returns changes that can be applied to the sample: of each table and each attribute (of the table full: of some at the beginning, in the middle and at the end), by all its names.
func goodChanges(t *testing.T) []api.Change {
	t.Helper()
	var all []api.Change
	standards := []api.Value{null, text("s"), number(9), day(8), flag(1)}
	for _, table := range sample().Tables {
		for to := 1; to <= 4; to++ {
			all = append(all, add(table.Name, "fresh", to, null), add(table.Name, fmt.Sprint("x", to), to, standards[to]))
		}
		for i, a := range table.Attrs {
			if table.Name == "full" && i%5 > 1 {
				continue
			}
			for _, name := range append([]string{a.Name}, a.Was...) {
				all = append(all, drop(table.Name, name), rename(table.Name, name, fmt.Sprint("fresh", i)))
				for to := 1; to <= 4; to++ {
					all = append(all, cast(table.Name, name, to, null), cast(table.Name, name, to, standards[to]))
				}
			}
		}
	}
	good := slices.DeleteFunc(all, func(c api.Change) bool { return refusalModel(sample(), c) != api.OK })
	kinds := map[string]int{}
	for _, c := range good {
		kinds[fmt.Sprint(c.Kind, c.Table)]++
	}
	if len(kinds) != 14 {
		t.Fatalf("there are changes of %v", kinds)
	}
	return good
}

// applied returns the schema after a change, which has no error.
func applied(t *testing.T, s api.Schema, c api.Change) api.Schema {
	t.Helper()
	out, err := schema.Apply(s, c)
	if err != api.OK {
		t.Fatalf("%+v of\n%s\nis %d", c, showAll(s), err)
	}
	return out
}

// P6.1, F3: changes one after the other agree with the model: the second one is of what the first one made.
func TestApplyTwice(t *testing.T) {
	good := goodChanges(t)
	for _, first := range good {
		s := applied(t, sample(), first)
		for _, second := range good {
			if second.Table == first.Table {
				checkApply(t, s, second)
			}
		}
	}
}

// P6.1, P6.2, F3: a table of any number of attributes gets further ones until it has 12; then there is room again when one is dropped.
func TestAddUntilFull(t *testing.T) {
	for n := 1; n <= 12; n++ {
		s := wide(n)
		for i := n; i < 12; i++ {
			s = applied(t, s, add("t", fmt.Sprint("more", i), api.KindText, null))
			if len(s.Tables[0].Attrs) != i+1 || s.Tables[0].Attrs[i].Name != fmt.Sprint("more", i) || !schema.Valid(s) {
				t.Fatalf("%s", show(s.Tables[0]))
			}
		}
		last := add("t", "last", api.KindText, null)
		if got, err := schema.Apply(s, last); err != api.ErrLimit || len(got.Tables) != 0 {
			t.Errorf("a table of 12 attributes, at first %d: %d", n, err)
		}
		s = applied(t, applied(t, s, drop("t", s.Tables[0].Attrs[11].Name)), last)
		if len(s.Tables[0].Attrs) != 12 || schema.Column(s.Tables[0], "last") != 11 {
			t.Errorf("%s", show(s.Tables[0]))
		}
	}
}

// P6.2: what Apply returns is valid, and no other table changes; of the changed one, no other attribute does.
func TestApplyChangesOneTable(t *testing.T) {
	for _, c := range goodChanges(t) {
		s := sample()
		got := applied(t, s, c)
		if !schema.Valid(got) || !validModel(got) || len(got.Tables) != len(s.Tables) {
			t.Fatalf("%+v is not valid:\n%s", c, showAll(got))
		}
		for i, table := range s.Tables {
			if table.Name != c.Table && show(table) != show(got.Tables[i]) {
				t.Fatalf("%+v changes %s to %s", c, show(table), show(got.Tables[i]))
			}
			if got.Tables[i].Name != table.Name {
				t.Fatalf("%+v: the table %d is called %q", c, i, got.Tables[i].Name)
			}
		}
		before, after := s.Tables[schema.Find(s, c.Table)], got.Tables[schema.Find(s, c.Table)]
		at := schema.Column(before, c.Attr)
		for i, a := range before.Attrs {
			if i == at {
				continue
			}
			kept := after.Attrs[schema.Column(after, a.Name)]
			if kept.Name != a.Name || kept.Kind != a.Kind || kept.Default != a.Default || !slices.Equal(kept.Was, a.Was) {
				t.Fatalf("%+v changes the attribute %+v to %+v", c, a, kept)
			}
		}
	}
}

// P6.3: all names, also former ones, of the attributes that stay find the same attributes after a change, and after a second one; a new name finds its attribute, the names of one that is dropped find none.
func TestNamesStay(t *testing.T) {
	good := goodChanges(t)
	for _, first := range good {
		once := applied(t, sample(), first)
		checkNames(t, sample(), once, first)
		for _, second := range good {
			if twice, err := schema.Apply(once, second); err == api.OK {
				checkNames(t, once, twice, second)
			}
		}
	}
}

// checkNames checks which attributes are found before and after a change. An attribute stays before or behind the same ones, so that its index tells which one it is.
func checkNames(t *testing.T, before, after api.Schema, c api.Change) {
	t.Helper()
	for i, table := range before.Tables {
		changed := after.Tables[i]
		dropped := -1
		if table.Name == c.Table && c.Kind == api.ChangeDrop {
			dropped = schema.Column(table, c.Attr)
		}
		for k, a := range table.Attrs {
			want := k
			if dropped >= 0 && k > dropped {
				want = k - 1
			}
			if k == dropped {
				want = -1
			}
			for _, name := range append([]string{a.Name}, a.Was...) {
				if got := schema.Column(changed, name); got != want {
					t.Fatalf("%+v: %q finds %d of %s", c, name, got, show(changed))
				}
			}
			if table.Name == c.Table && c.Kind == api.ChangeRename && k == schema.Column(table, c.Attr) && schema.Column(changed, c.Name) != k {
				t.Fatalf("%+v: the new name does not find %d of %s", c, k, show(changed))
			}
		}
		if table.Name == c.Table && c.Kind == api.ChangeAdd && schema.Column(changed, c.Name) != len(table.Attrs) {
			t.Fatalf("%+v: the new name does not find the last attribute of %s", c, show(changed))
		}
	}
}

// P6.1, F4: what changes make of rows, by examples: also rows of other tables, which stay as they are, and each misfit.
func TestConvertExamples(t *testing.T) {
	ann := []api.Value{text("12"), number(7), flag(0), day(9)}
	none := []api.Value{null, null, null, null}
	for _, test := range []struct {
		c     api.Change
		table int
		row   []api.Value
		want  []api.Value
		err   api.Errno
	}{
		{add("people", "x", 1, null), 0, ann, []api.Value{text("12"), number(7), flag(0), day(9), null}, api.OK}, {add("people", "x", 1, text("s")), 0, ann, []api.Value{text("12"), number(7), flag(0), day(9), text("s")}, api.OK}, {add("people", "x", 4, flag(0)), 0, none, []api.Value{null, null, null, null, flag(0)}, api.OK},
		{drop("people", "name"), 0, ann, []api.Value{number(7), flag(0), day(9)}, api.OK}, {drop("people", "ok"), 0, ann, []api.Value{text("12"), number(7), day(9)}, api.OK}, {drop("people", "birth"), 0, ann, []api.Value{text("12"), number(7), flag(0)}, api.OK},
		{rename("people", "name", "x"), 0, ann, ann, api.OK}, {rename("people", "years", "x"), 0, none, none, api.OK}, {rename("people", "born", "x"), 0, ann, ann, api.OK},
		{cast("people", "called", 2, number(5)), 0, ann, []api.Value{number(12), number(7), flag(0), day(9)}, api.OK}, {cast("people", "age", 1, null), 0, ann, []api.Value{text("12"), text("7"), flag(0), day(9)}, api.OK}, {cast("people", "old", 3, null), 0, ann, []api.Value{text("12"), day(7), flag(0), day(9)}, api.OK}, {cast("people", "ok", 1, null), 0, ann, []api.Value{text("12"), number(7), text("false"), day(9)}, api.OK}, {cast("people", "born", 2, null), 0, ann, []api.Value{text("12"), number(7), flag(0), number(9)}, api.OK}, {cast("people", "birth", 1, null), 0, ann, []api.Value{text("12"), number(7), flag(0), text("@9")}, api.OK},
		{cast("people", "name", 2, number(5)), 0, none, none, api.OK}, {cast("people", "age", 4, flag(1)), 0, none, none, api.OK}, {cast("people", "born", 1, text("s")), 0, none, none, api.OK},
		{cast("people", "name", 3, null), 0, ann, nil, api.ErrFit}, {cast("people", "name", 4, null), 0, ann, nil, api.ErrFit}, {cast("people", "age", 4, null), 0, ann, nil, api.ErrFit}, {cast("people", "ok", 2, null), 0, ann, nil, api.ErrFit}, {cast("people", "ok", 3, null), 0, ann, nil, api.ErrFit}, {cast("people", "born", 4, null), 0, ann, nil, api.ErrFit}, {cast("people", "age", 3, null), 0, []api.Value{null, number(-1), null, null}, nil, api.ErrFit}, {cast("people", "age", 3, day(1)), 0, []api.Value{null, number(73049), null, null}, nil, api.ErrFit},
		{add("people", "x", 1, null), 3, []api.Value{text("r")}, []api.Value{text("r")}, api.OK}, {drop("people", "name"), 3, []api.Value{text("r")}, []api.Value{text("r")}, api.OK}, {rename("people", "name", "x"), 3, []api.Value{null}, []api.Value{null}, api.OK}, {cast("people", "name", 2, null), 3, []api.Value{text("r")}, []api.Value{text("r")}, api.OK}, {cast("one", "ref", 2, null), 0, ann, ann, api.OK}, {drop("firms", "name"), 0, ann, ann, api.OK},
	} {
		got, err := schema.Convert(sample(), test.c, test.table, test.row)
		if err != test.err || !slices.Equal(got, test.want) {
			t.Errorf("%+v of %v in the table %d: %d %v", test.c, test.row, test.table, err, got)
		}
	}
}

// P6.1, F4: an index of no table, and a row that does not fit, have ErrArg, also if it is not the table that changes, or if a value could not be cast.
func TestConvertErrors(t *testing.T) {
	for _, c := range goodChanges(t) {
		for _, table := range []int{-1, -2, 4, 5, 20, math.MinInt, math.MaxInt} {
			for _, row := range [][]api.Value{nil, rows(0)[0], rows(1)[0], rows(3)[0]} {
				if got, err := schema.Convert(sample(), c, table, row); err != api.ErrArg || len(got) != 0 {
					t.Fatalf("%+v of the table %d: %d %v", c, table, err, got)
				}
			}
		}
		for table := range 4 {
			for _, row := range rows(table) {
				for _, unfit := range unfitRows(row) {
					if got, err := schema.Convert(sample(), c, table, unfit); err != api.ErrArg || len(got) != 0 {
						t.Fatalf("%+v of the row %v in the table %d: %d %v", c, unfit, table, err, got)
					}
				}
			}
		}
	}
}

// unfitRows returns rows that do not fit the table that a row fits: too short and too long ones, and ones with a value of no kind or that is not valid.
func unfitRows(row []api.Value) [][]api.Value {
	out := [][]api.Value{nil, row[1:], row[:len(row)-1], append(slices.Clone(row), null), append(slices.Clone(row), row...)}
	for i := range row {
		for _, v := range []api.Value{{N: 1}, {Kind: 5}, {Kind: -1}, {Kind: api.KindFlag, N: 2}, {Kind: api.KindText, N: 1}} {
			unfit := slices.Clone(row)
			unfit[i] = v
			out = append(out, unfit)
		}
	}
	return out
}

// P6.1, P6.4, F4: Convert agrees with the model, a converted row fits the changed table, and only a cast can have ErrFit.
func TestConvertAgrees(t *testing.T) {
	misfits := 0
	for _, c := range goodChanges(t) {
		after := applied(t, sample(), c)
		for table := range 4 {
			for _, row := range rows(table) {
				checkConvert(t, sample(), c, table, row)
				got, err := schema.Convert(sample(), c, table, row)
				isCast := c.Kind == api.ChangeCast && sample().Tables[table].Name == c.Table
				if err == api.ErrFit && isCast {
					misfits++
				} else if err != api.OK || !schema.Fits(after.Tables[table], got) || !fitsRowModel(after.Tables[table], got) {
					t.Fatalf("%+v makes %d %v of the row %v, for\n%s", c, err, got, row, show(after.Tables[table]))
				}
			}
		}
	}
	if misfits == 0 {
		t.Error("each value can be cast")
	}
}

// P6.1, P6.4, F4: a cast of an attribute of each kind to each kind makes of each value what value.Cast does, or has ErrFit.
func TestConvertCasts(t *testing.T) {
	for _, kind := range edgeKinds()[:4] {
		for _, to := range edgeKinds()[:4] {
			s := api.Schema{Tables: []api.Table{{Name: "t", Key: []int{0}, Attrs: []api.Attr{attr("a", kind, null)}}}}
			for _, v := range values() {
				got, err := schema.Convert(s, cast("t", "a", to, null), 0, []api.Value{v})
				want, castErr := value.Cast(v, to)
				switch {
				case kind == to || !value.Valid(v) || v.Kind != kind && v.Kind != api.KindNull:
					if err != api.ErrArg || len(got) != 0 {
						t.Errorf("%#v of the kind %d to %d: %d %v", v, kind, to, err, got)
					}
				case castErr != api.OK:
					if err != api.ErrFit || len(got) != 0 {
						t.Errorf("%#v to %d: %d %v", v, to, err, got)
					}
				case err != api.OK || !slices.Equal(got, []api.Value{want}):
					t.Errorf("%#v to %d: %d %v", v, to, err, got)
				}
			}
		}
	}
}

// converted returns what a change makes of a row, which has no error.
func converted(t *testing.T, s api.Schema, c api.Change, table int, row []api.Value) []api.Value {
	t.Helper()
	out, err := schema.Convert(s, c, table, row)
	if err != api.OK {
		t.Fatalf("%+v of the row %v in the table %d of\n%s\nis %d", c, row, table, showAll(s), err)
	}
	return out
}

// P6.5: dropping an attribute that was added gives the schema and the rows back, also after other changes.
func TestDropOfAdded(t *testing.T) {
	for _, first := range goodChanges(t) {
		s := applied(t, sample(), first)
		for table := range s.Tables {
			name := s.Tables[table].Name
			for to := 1; to <= 4; to++ {
				for _, standard := range []api.Value{null, text(""), number(-9), day(0), flag(1)} {
					c := add(name, "extra", to, standard)
					more, err := schema.Apply(s, c)
					if err != api.OK {
						continue
					}
					back := applied(t, more, drop(name, "extra"))
					if showAll(back) != showAll(s) {
						t.Fatalf("%+v and back makes of\n%s\n%s", c, showAll(s), showAll(back))
					}
					checkRowsBack(t, s, more, c, table)
				}
			}
		}
	}
}

// checkRowsBack checks that the rows of all tables are as before after an attribute of one was added and dropped.
func checkRowsBack(t *testing.T, s, more api.Schema, c api.Change, changed int) {
	t.Helper()
	for table := range s.Tables {
		for _, row := range rows(table) {
			if !schema.Fits(s.Tables[table], row) {
				continue
			}
			wider := converted(t, s, c, table, row)
			if table == changed && !slices.Equal(wider, append(slices.Clone(row), c.Default)) {
				t.Fatalf("%+v makes %v of %v", c, wider, row)
			}
			if back := converted(t, more, drop(c.Table, c.Name), table, wider); !slices.Equal(back, row) {
				t.Fatalf("%+v and back makes %v of %v", c, back, row)
			}
		}
	}
}

// P6.5: an attribute that was added, renamed and cast is dropped by its first name, and the schema and the rows are as before.
func TestDropOfAddedByFormerName(t *testing.T) {
	for table := range 4 {
		s, name := sample(), sample().Tables[table].Name
		if name == "full" {
			continue
		}
		changes := []api.Change{add(name, "extra", api.KindNumber, number(4)), rename(name, "extra", "more"), cast(name, "extra", api.KindText, text("s")), drop(name, "extra")}
		list := rows(table)
		for _, c := range changes {
			for i, row := range list {
				list[i] = converted(t, s, c, table, row)
			}
			s = applied(t, s, c)
		}
		if showAll(s) != showAll(sample()) || fmt.Sprint(list) != fmt.Sprint(rows(table)) {
			t.Errorf("%s\n%v", showAll(s), list)
		}
	}
}

// inOrder returns the schema after two changes, one after the other, what they make of rows of all tables, and the errors.
func inOrder(first, second api.Change) (schemas, made string) {
	once, err := schema.Apply(sample(), first)
	if err != api.OK {
		return "", ""
	}
	twice, err := schema.Apply(once, second)
	schemas = fmt.Sprint(showAll(twice), err)
	for table := range 4 {
		for _, row := range rows(table) {
			half, err := schema.Convert(sample(), first, table, row)
			if err == api.OK {
				half, err = schema.Convert(once, second, table, half)
			}
			made += fmt.Sprint(half, err, "\n")
		}
	}
	return schemas, made
}

// P6.6: changes of different tables commute, for the schema and for the rows, misfits among them.
func TestChangesCommute(t *testing.T) {
	good, next := goodChanges(t), numbers()
	for i, first := range good {
		for _, second := range good[:i] {
			if first.Table == second.Table || next(5) > 0 {
				continue
			}
			schemas, made := inOrder(first, second)
			otherSchemas, otherMade := inOrder(second, first)
			if schemas != otherSchemas || made != otherMade || schemas == "" {
				t.Fatalf("%+v and %+v:\n%s\n%s\nand\n%s\n%s", first, second, schemas, made, otherSchemas, otherMade)
			}
		}
	}
}

// P6.6: a change that cannot be applied has the same error after a change of another table.
func TestErrorsCommute(t *testing.T) {
	bad := []api.Change{add("people", "name", 1, null), add("people", "1", 1, null), drop("people", "age"), drop("people", "nobody"), rename("people", "ok", "old"), cast("people", "ok", 4, null), drop("nowhere", "x"), add("full", "x", 1, null), {}}
	for _, first := range goodChanges(t) {
		once := applied(t, sample(), first)
		for _, c := range bad {
			if c.Table == first.Table {
				continue
			}
			_, want := schema.Apply(sample(), c)
			if _, err := schema.Apply(once, c); err != want || err == api.OK {
				t.Fatalf("%+v after %+v: %d, not %d", c, first, err, want)
			}
		}
	}
}

// keyNames returns the names and former names of the attributes of the key of a table.
func keyNames(t api.Table) [][]string {
	var out [][]string
	for _, i := range t.Key {
		out = append(out, append(slices.Clone(t.Attrs[i].Was), t.Attrs[i].Name))
	}
	return out
}

// P6.7: the attributes of the keys stay the same, in their order, also when others are dropped one after the other.
func TestKeysStay(t *testing.T) {
	for _, c := range goodChanges(t) {
		s, got := sample(), applied(t, sample(), c)
		for i, table := range s.Tables {
			before, after := keyNames(table), keyNames(got.Tables[i])
			if len(before) != len(after) {
				t.Fatalf("%+v: the key of %s", c, show(got.Tables[i]))
			}
			for k := range before {
				if !slices.Equal(after[k][:len(before[k])], before[k]) || len(after[k]) > len(before[k]) && c.Kind != api.ChangeRename {
					t.Fatalf("%+v: the key of %s", c, show(got.Tables[i]))
				}
			}
		}
	}
}

// P6.7: of a table with 12 attributes and each key, all attributes that are not in the key are dropped, in several orders; the key is then all of it.
func TestKeysStayWhenOthersGo(t *testing.T) {
	for chosen := 1; chosen < 1<<12; chosen += 7 {
		s := wide(12)
		s.Tables[0].Key = nil
		for i := range 12 {
			if chosen>>i&1 == 1 {
				s.Tables[0].Key = append(s.Tables[0].Key, i)
			}
		}
		want := keyNames(s.Tables[0])
		for i := range 12 {
			at := (i*5 + chosen) % 12
			got, err := schema.Apply(s, drop("t", fmt.Sprint("old", at)))
			if isKey := chosen>>at&1 == 1; isKey != (err == api.ErrArg) || !isKey && err != api.OK {
				t.Fatalf("old%d of %s: %d", at, show(s.Tables[0]), err)
			}
			if err == api.OK {
				s = got
			}
			if !reflect.DeepEqual(keyNames(s.Tables[0]), want) {
				t.Fatalf("the key of %s after dropping old%d", show(s.Tables[0]), at)
			}
		}
		if len(s.Tables[0].Attrs) != len(want) {
			t.Fatalf("left: %s", show(s.Tables[0]))
		}
	}
}

// odd returns an integer that is mostly a small one, but sometimes an extreme one.
func odd(next func(bound int) int) int {
	if next(8) == 0 {
		return []int{math.MinInt, math.MaxInt, -1, 1 << 32, 12, 13}[next(6)]
	}
	return next(5)
}

// oddText returns a short name, or sometimes a text that is none.
func oddText(next func(bound int) int) string {
	if next(12) == 0 {
		return []string{"", "1", "_", "é", strings.Repeat("x", 25), strings.Repeat("x", 300)}[next(6)]
	}
	return string(rune('a' + next(12)))
}

// oddValue returns a value that is null, or has any fields.
func oddValue(next func(bound int) int) api.Value {
	switch next(6) {
	case 0:
		return api.Value{Kind: odd(next), N: odd(next), Text: oddText(next)}
	case 1:
		return text(oddText(next))
	case 2:
		return api.Value{Kind: odd(next), N: odd(next)}
	}
	return null
}

// oddSchema returns a schema of a few tables, which may be valid or not.
func oddSchema(next func(bound int) int) api.Schema {
	var s api.Schema
	for range next(4) {
		t := api.Table{Name: oddText(next)}
		for i := range 1 + next(3) {
			a := api.Attr{Name: oddText(next), Kind: 1 + next(4), Default: oddValue(next)}
			if next(3) == 0 {
				a.Was = append(a.Was, oddText(next))
			}
			if next(20) == 0 {
				a.Kind = odd(next)
			}
			if next(2) == 0 {
				t.Key = append(t.Key, i)
			}
			t.Attrs = append(t.Attrs, a)
		}
		if next(12) == 0 {
			t.Key = append(t.Key, odd(next))
		}
		s.Tables = append(s.Tables, t)
	}
	return s
}

// P1, P6.1: for any schemas, changes, indices and rows all functions return what the models do.
func TestAnyArguments(t *testing.T) {
	next := numbers()
	valid, good := 0, 0
	for range 60000 {
		s := oddSchema(next)
		if schema.Valid(s) != validModel(s) {
			t.Fatalf("Valid: %v\n%s", schema.Valid(s), showAll(s))
		}
		c := api.Change{Kind: odd(next), Table: oddText(next), Attr: oddText(next), Name: oddText(next), To: odd(next), Default: oddValue(next)}
		if next(5) > 0 && len(s.Tables) > 0 {
			c = formed(s, c)
		}
		checkApply(t, s, c)
		row := make([]api.Value, next(4))
		for i := range row {
			row[i] = oddValue(next)
		}
		table := odd(next)
		checkConvert(t, s, c, table, row)
		if len(s.Tables) > 0 && schema.Fits(s.Tables[0], row) != fitsRowModel(s.Tables[0], row) {
			t.Fatalf("Fits of %v: %s", row, show(s.Tables[0]))
		}
		if validModel(s) && len(s.Tables) > 0 {
			valid++
			if refusalModel(s, c) == api.OK {
				good++
			}
		}
	}
	if valid < 1000 || good < 300 {
		t.Errorf("only %d schemas with tables were valid, with %d changes that can be applied", valid, good)
	}
}

// formed returns a change as one of a table of a schema and of the last attribute of this table, with zero fields where its kind has none.
func formed(s api.Schema, c api.Change) api.Change {
	table := s.Tables[len(s.Tables)-1]
	c.Table, c.Attr = table.Name, table.Attrs[len(table.Attrs)-1].Name
	switch c.Kind {
	case api.ChangeAdd:
		c.Attr = ""
	case api.ChangeDrop:
		c.Name, c.To, c.Default = "", 0, null
	case api.ChangeRename:
		c.To, c.Default = 0, null
	case api.ChangeCast:
		c.Name = ""
	}
	return c
}

// P1: the functions end for large arguments: many former names, long names, many tables, attributes and values.
func TestLarge(t *testing.T) {
	s := sample()
	var many []string
	for i := range 300000 {
		many = append(many, fmt.Sprint("f", i))
	}
	s.Tables[1].Attrs[2].Was = many
	if !schema.Valid(s) || schema.Column(s.Tables[1], "f299999") != 2 {
		t.Error("many former names")
	}
	got := applied(t, s, rename("firms", "f12345", "last"))
	if was := got.Tables[1].Attrs[2].Was; len(was) != 300001 || was[300000] != "since" || got.Tables[1].Attrs[2].Name != "last" {
		t.Errorf("%d former names", len(was))
	}
	many[299999] = "f0"
	if schema.Valid(s) {
		t.Error("the first and the last former name are the same")
	}
	long := strings.Repeat("x", 10000000)
	if schema.Find(s, long) != -1 || schema.Column(s.Tables[0], long) != -1 || schema.Valid(api.Schema{Tables: make([]api.Table, 1000000)}) || schema.Valid(wide(100000)) || schema.Fits(s.Tables[0], make([]api.Value, 1000000)) {
		t.Error("large arguments")
	}
	if _, err := schema.Apply(sample(), add("people", long, 1, null)); err != api.ErrArg {
		t.Errorf("a long name: %d", err)
	}
}

// results returns what all functions return for many arguments.
func results(t *testing.T) []string {
	t.Helper()
	var out []string
	next := numbers()
	for range 500 {
		s := oddSchema(next)
		name := oddText(next)
		out = append(out, fmt.Sprint(schema.Valid(s), schema.Find(s, name)))
		for _, table := range s.Tables {
			out = append(out, fmt.Sprint(schema.Column(table, name), schema.Fits(table, []api.Value{oddValue(next), null})))
		}
	}
	for _, c := range append(goodChanges(t), api.Change{}, drop("people", "age"), add("full", "x", 1, null)) {
		s, err := schema.Apply(sample(), c)
		out = append(out, fmt.Sprint(showAll(s), err))
		for table := range 4 {
			for _, row := range rows(table) {
				got, err := schema.Convert(sample(), c, table, row)
				out = append(out, fmt.Sprint(got, err))
			}
		}
	}
	return out
}

// P3: calls with equal arguments have equal results, whatever was called in between.
func TestIndependence(t *testing.T) {
	first := results(t)
	for range 3 {
		if !slices.Equal(results(t), first) {
			t.Fatal("the results change")
		}
	}
}

// roomy returns a copy of a list with two elements behind it.
func roomy[T any](list []T, extra T) []T {
	return append(slices.Clone(list), extra, extra)[:len(list)]
}

// roomySample returns the sample with room behind each of its slices, which an append would use.
func roomySample() api.Schema {
	s := sample()
	for i := range s.Tables {
		table := &s.Tables[i]
		for k := range table.Attrs {
			table.Attrs[k].Was = roomy(table.Attrs[k].Was, "behind")
		}
		table.Attrs = roomy(table.Attrs, attr("behind", 7, day(-1)))
		table.Key = roomy(table.Key, -7)
	}
	s.Tables = roomy(s.Tables, api.Table{Name: "behind"})
	return s
}

// showRoom returns a text of a schema that roomySample made, with what is behind its slices.
func showRoom(s api.Schema) string {
	out := api.Schema{Tables: slices.Clone(s.Tables[:len(s.Tables)+2])}
	for i := range s.Tables {
		table := &out.Tables[i]
		table.Attrs = slices.Clone(table.Attrs[:len(table.Attrs)+2])
		table.Key = table.Key[:len(table.Key)+2]
		for k := range len(table.Attrs) - 2 {
			table.Attrs[k].Was = table.Attrs[k].Was[:len(table.Attrs[k].Was)+2]
		}
	}
	return showAll(out)
}

// LANGUAGE.md, rule 7: schemas and rows that are given stay as they are, also beyond the lengths of their slices.
func TestArgumentsAreKept(t *testing.T) {
	for _, c := range append(goodChanges(t), drop("people", "age"), drop("people", "nobody"), add("full", "x", 1, null), api.Change{}) {
		s := roomySample()
		schema.Valid(s)
		schema.Find(s, c.Table)
		schema.Apply(s, c)
		for table := range 4 {
			schema.Column(s.Tables[table], c.Attr)
			for _, row := range rows(table) {
				given := roomy(row, day(-5))
				schema.Fits(s.Tables[table], given)
				schema.Convert(s, c, table, given)
				if want := append(slices.Clone(row), day(-5), day(-5)); !slices.Equal(given[:len(row)+2], want) {
					t.Fatalf("%+v changes the row %v to %v", c, want, given[:len(row)+2])
				}
			}
		}
		if showRoom(s) != showRoom(roomySample()) {
			t.Fatalf("%+v changes the schema to\n%s", c, showRoom(s))
		}
	}
}

// areas appends the areas of memory of all slices in a value, up to their capacities.
func areas(v reflect.Value, list [][2]uintptr) [][2]uintptr {
	switch v.Kind() {
	case reflect.Struct:
		for i := range v.NumField() {
			list = areas(v.Field(i), list)
		}
	case reflect.Slice:
		if v.Cap() > 0 {
			list = append(list, [2]uintptr{v.Pointer(), v.Pointer() + uintptr(v.Cap())*v.Type().Elem().Size()})
		}
		for i := range v.Len() {
			list = areas(v.Index(i), list)
		}
	}
	return list
}

// checkAreas checks that no two slices in all of these values share memory.
func checkAreas(t *testing.T, about api.Change, all ...any) {
	t.Helper()
	var list [][2]uintptr
	for _, v := range all {
		list = areas(reflect.ValueOf(v), list)
	}
	slices.SortFunc(list, func(a, b [2]uintptr) int { return int(a[0]) - int(b[0]) })
	for i := range len(list) - 1 {
		if list[i][1] > list[i+1][0] {
			t.Fatalf("%+v: slices share memory", about)
		}
	}
}

// LANGUAGE.md, rule 7: a result is new memory: no slice in it shares memory with a slice in an argument or with another one in it, also of tables that do not change.
func TestResultsAreNew(t *testing.T) {
	for _, c := range goodChanges(t) {
		s := roomySample()
		got := applied(t, s, c)
		checkAreas(t, c, s, got)
		for table := range 4 {
			for _, row := range rows(table) {
				given := roomy(row, day(-5))
				made, _ := schema.Convert(s, c, table, given)
				again, _ := schema.Convert(s, c, table, given)
				checkAreas(t, c, s, given, made, again)
			}
		}
		again := applied(t, s, c)
		checkAreas(t, c, s, got, again, applied(t, got, add("one", "further", 1, null)))
	}
}

// LANGUAGE.md, rule 7: changing and extending a result changes nothing in what it was made from.
func TestChangedResults(t *testing.T) {
	for _, c := range goodChanges(t) {
		s := roomySample()
		got := applied(t, s, c)
		for i := range got.Tables {
			table := &got.Tables[i]
			for k := range table.Attrs {
				a := &table.Attrs[k]
				a.Was = append(a.Was, "changed")
				a.Was[0] = "changed"
				*a = attr("changed", 9, flag(7), a.Was...)
			}
			table.Key[0] = 99
			table.Key = append(table.Key, 98)
			table.Attrs = append(table.Attrs, attr("changed", 9, null))
			table.Name = "changed"
		}
		for table := range 4 {
			for _, row := range rows(table) {
				given := slices.Clone(row)
				if made, err := schema.Convert(s, c, table, given); err == api.OK {
					made[0] = flag(9)
				}
				if !slices.Equal(given, row) {
					t.Fatalf("%+v: a changed result changes the row %v to %v", c, row, given)
				}
			}
		}
		if showRoom(s) != showRoom(roomySample()) {
			t.Fatalf("%+v: a changed result changes the schema to\n%s", c, showRoom(s))
		}
	}
}
