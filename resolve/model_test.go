package resolve_test

import (
	"math/rand/v2"
	"regexp"
	"slices"
	"testing"

	"cleanse/api"
	"cleanse/ratio"
	"cleanse/resolve"
	"cleanse/value"
)

// model resolves trees once more, by lists of what may be wrong. It has the tables, and the names that are there already.
type model struct {
	tables []api.Table
	names  map[string]bool
	setup  api.Setup
}

// trial is something that may be wrong, and the error if it is.
type trial struct {
	isWrong func() bool
	err     api.Errno
}

// first returns the first error of some trials.
func first(trials ...trial) api.Errno {
	for _, t := range trials {
		if t.isWrong() {
			return t.err
		}
	}
	return api.OK
}

// wrong returns a trial of something that is known already.
func wrong(isWrong bool, err api.Errno) trial {
	return trial{func() bool { return isWrong }, err}
}

// outside reports whether a number is none of those from one to another one.
func outside(n, from, to int) bool { return n < from || n > to }

var nameForm = regexp.MustCompile(`\A[A-Za-z][A-Za-z0-9_]{0,23}\z`)

// modelResolve returns what Resolve should return.
func modelResolve(p api.Program) (api.Setup, []api.Fault) {
	if len(p.Items) > 200 {
		return api.Setup{}, []api.Fault{{Err: api.ErrLimit, At: p.Items[200].At}}
	}
	return modelItems(p, nil, false)
}

// modelItems returns the setup or the faults of the items of a tree, over its own tables or, if they are given, over others.
func modelItems(p api.Program, tables []api.Table, areGiven bool) (api.Setup, []api.Fault) {
	m := model{tables: tables, names: map[string]bool{}}
	faults := map[int]api.Fault{}
	for _, isTable := range []bool{true, false} {
		for i, x := range p.Items {
			if (x.Kind == api.ItemTable) != isTable || isTable && areGiven {
				continue
			}
			if err, at := m.item(x); err != api.OK {
				faults[i] = api.Fault{Err: err, At: at}
			}
		}
	}
	var out []api.Fault
	for i := range p.Items {
		if f, isFaulty := faults[i]; isFaulty {
			out = append(out, f)
		}
	}
	if out != nil {
		return api.Setup{}, out
	}
	m.setup.Schema.Tables = m.tables
	return m.setup, nil
}

// item adds an item to the setup, or returns its fault.
func (m *model) item(x api.Item) (api.Errno, int) {
	sort := []string{"", "table", "source", "block", "match", "", "rule", "rule", "rule", "rule", "query"}
	if outside(x.Kind, 1, 10) || x.Kind != api.ItemKeep && !nameForm.MatchString(x.Name) {
		return api.ErrArg, x.At
	}
	if x.Kind != api.ItemKeep {
		name := sort[x.Kind] + " " + x.Name
		if m.names[name] {
			return api.ErrTwice, x.At
		}
		m.names[name] = true
	}
	if x.Kind == api.ItemQuery {
		plan, _, err, at := m.expr(x.Expr)
		if err == api.OK {
			m.setup.Queries = append(m.setup.Queries, api.Query{Name: x.Name, Plan: plan})
		}
		return err, at
	}
	return []func(api.Item) api.Errno{
		api.ItemTable: m.table, api.ItemOrigin: m.origin, api.ItemBlock: m.block, api.ItemMatch: m.match, api.ItemKeep: m.keep,
		api.ItemUnique: m.unique, api.ItemDepend: m.depend, api.ItemInclude: m.include, api.ItemDeny: m.deny,
	}[x.Kind](x), x.At
}

// find returns the index of a table, or -1.
func (m *model) find(name string) int {
	for i, t := range m.tables {
		if t.Name == name {
			return i
		}
	}
	return -1
}

// seek returns the index of an attribute by its name or a former one, or -1.
func seek(attrs []api.Attr, name string) int {
	former := -1
	for i, a := range attrs {
		if a.Name == name {
			return i
		}
		if former < 0 && slices.Contains(a.Was, name) {
			former = i
		}
	}
	return former
}

// seekAll returns the indices of attributes, or the first error.
func seekAll(attrs []api.Attr, names []string) ([]int, api.Errno) {
	var out []int
	for _, name := range names {
		i := seek(attrs, name)
		if i < 0 {
			return nil, api.ErrName
		}
		if slices.Contains(out, i) {
			return nil, api.ErrTwice
		}
		out = append(out, i)
	}
	return out, api.OK
}

// attrs returns the attributes of a table; none if there is no such table.
func (m *model) attrs(table string) []api.Attr {
	if i := m.find(table); i >= 0 {
		return m.tables[i].Attrs
	}
	return nil
}

// place returns a trial of a table and another one of its attribute.
func (m *model) place(table, attr string) (trial, trial) {
	return wrong(m.find(table) < 0, api.ErrName), wrong(seek(m.attrs(table), attr) < 0, api.ErrName)
}

func (m *model) table(x api.Item) api.Errno {
	if len(m.tables) == 20 || outside(len(x.Columns), 1, 12) {
		return api.ErrLimit
	}
	t := api.Table{Name: x.Name}
	for _, c := range x.Columns {
		err := first(
			wrong(!nameForm.MatchString(c.Name) || outside(c.Kind, 1, 4), api.ErrArg),
			wrong(seek(t.Attrs, c.Name) >= 0, api.ErrTwice),
			wrong(!value.Valid(c.Default), api.ErrRange),
			wrong(c.Default != null && c.Default.Kind != c.Kind, api.ErrType),
		)
		if err != api.OK {
			return err
		}
		t.Attrs = append(t.Attrs, api.Attr{Name: c.Name, Kind: c.Kind, Default: c.Default})
	}
	if len(x.Names) == 0 {
		return api.ErrArg
	}
	key, err := seekAll(t.Attrs, x.Names)
	if err == api.OK {
		for i := range t.Attrs {
			if slices.Contains(key, i) {
				t.Key = append(t.Key, i)
			}
		}
		m.tables = append(m.tables, t)
	}
	return err
}

func (m *model) origin(x api.Item) api.Errno {
	err := first(wrong(len(m.setup.Origins) == 64, api.ErrLimit), wrong(outside(x.N, 0, 100), api.ErrRange))
	if err == api.OK {
		m.setup.Origins = append(m.setup.Origins, api.Origin{Name: x.Name, Trust: x.N})
	}
	return err
}

func (m *model) block(x api.Item) api.Errno {
	table, attr := m.place(x.Table, x.Attr)
	b := api.Block{Name: x.Name, Table: m.find(x.Table), Col: seek(m.attrs(x.Table), x.Attr), By: x.By}
	isDivisor := false
	for m := 1; m <= x.N && m <= 64; m++ {
		isDivisor = isDivisor || m == x.M && x.N/m*m == x.N
	}
	err := first(table, attr, wrong(outside(x.By, 1, 4), api.ErrArg),
		wrong(x.By == api.ByPrefix && outside(x.N, 1, 24), api.ErrRange),
		wrong(x.By == api.BySketch && (outside(x.N, 1, 64) || !isDivisor), api.ErrRange))
	if err != api.OK {
		return err
	}
	if x.By == api.ByPrefix || x.By == api.BySketch {
		b.N = x.N
	}
	if x.By == api.BySketch {
		b.M = x.M
	}
	m.setup.Blocks = append(m.setup.Blocks, b)
	return api.OK
}

func (m *model) match(x api.Item) api.Errno {
	out := api.Match{Name: x.Name, Table: m.find(x.Table), At: x.N}
	trials := []trial{wrong(out.Table < 0, api.ErrName), wrong(outside(len(x.Terms), 1, 12), api.ErrLimit), wrong(outside(x.N, 0, 10000), api.ErrRange)}
	for _, t := range x.Terms {
		col := seek(m.attrs(x.Table), t.Attr)
		kind := 0
		if col >= 0 {
			kind = m.attrs(x.Table)[col].Kind
		}
		isNear, isText := t.Measure == api.MeasureNear, slices.Contains([]int{api.MeasureEdit, api.MeasureJaccard, api.MeasureJaro}, t.Measure)
		isShare := ratio.Valid(t.Least) && ratio.Cmp(t.Least, api.Ratio{Num: 0, Den: 1}) >= 0 && ratio.Cmp(t.Least, api.Ratio{Num: 1, Den: 1}) <= 0
		trials = append(trials,
			wrong(col < 0, api.ErrName),
			wrong(outside(t.Measure, 1, 5), api.ErrArg),
			wrong(!isShare || outside(t.Gives, 0, 1000) || outside(t.Takes, 0, 1000) || isNear && outside(t.Tolerance, 0, 999999999), api.ErrRange),
			wrong(isText && kind != api.KindText || isNear && kind != api.KindNumber && kind != api.KindDay, api.ErrType))
		w := api.Weigh{Col: col, Measure: t.Measure, Least: t.Least, Gives: t.Gives, Takes: t.Takes}
		if isNear {
			w.Tolerance = t.Tolerance
		}
		out.Terms = append(out.Terms, w)
	}
	err := first(trials...)
	if err == api.OK {
		m.setup.Matches = append(m.setup.Matches, out)
	}
	return err
}

func (m *model) keep(x api.Item) api.Errno {
	table, attr := m.place(x.Table, x.Attr)
	k := api.Keep{Table: m.find(x.Table), Col: seek(m.attrs(x.Table), x.Attr), By: x.By}
	isThere := false
	for _, other := range m.setup.Keeps {
		isThere = isThere || other.Table == k.Table && other.Col == k.Col
	}
	err := first(table, attr, wrong(outside(x.By, 1, 6), api.ErrArg), wrong(isThere, api.ErrTwice),
		trial{func() bool { return x.By == api.KeepLongest && m.attrs(x.Table)[k.Col].Kind != api.KindText }, api.ErrType})
	if err == api.OK {
		m.setup.Keeps = append(m.setup.Keeps, k)
	}
	return err
}

// cols returns the table and the attributes of a constraint, and the first error.
func (m *model) cols(x api.Item) (api.Rule, api.Errno) {
	out := api.Rule{Kind: x.Kind - api.ItemUnique + api.RuleUnique, Name: x.Name, Table: m.find(x.Table)}
	err := first(wrong(out.Table < 0, api.ErrName), wrong(len(x.Names) == 0, api.ErrArg))
	if err == api.OK {
		out.Cols, err = seekAll(m.attrs(x.Table), x.Names)
	}
	return out, err
}

func (m *model) unique(x api.Item) api.Errno {
	out, err := m.cols(x)
	if err == api.OK {
		m.setup.Rules = append(m.setup.Rules, out)
	}
	return err
}

func (m *model) depend(x api.Item) api.Errno {
	out, err := m.cols(x)
	if err != api.OK {
		return err
	}
	attrs := m.attrs(x.Table)
	out.Col = seek(attrs, x.Attr)
	trials := []trial{wrong(out.Col < 0, api.ErrName), wrong(slices.Contains(out.Cols, out.Col), api.ErrArg)}
	for _, f := range x.Fixed {
		col := seek(attrs, f.Name)
		isThere := false
		for _, other := range out.Fixed {
			isThere = isThere || other.Col == col
		}
		trials = append(trials, wrong(col < 0, api.ErrName), wrong(isThere, api.ErrTwice), wrong(!value.Valid(f.Value), api.ErrRange),
			trial{func() bool { return f.Value.Kind != attrs[col].Kind }, api.ErrType})
		out.Fixed = append(out.Fixed, api.Fixed{Col: col, Value: f.Value})
	}
	err = first(trials...)
	if err == api.OK {
		m.setup.Rules = append(m.setup.Rules, out)
	}
	return err
}

func (m *model) include(x api.Item) api.Errno {
	table, attr := m.place(x.Table, x.Attr)
	other, otherAttr := m.place(x.Other, x.OtherAttr)
	out := api.Rule{Kind: api.RuleInclude, Name: x.Name, Table: m.find(x.Table), Col: seek(m.attrs(x.Table), x.Attr), Other: m.find(x.Other), OtherCol: seek(m.attrs(x.Other), x.OtherAttr)}
	err := first(table, attr, other, otherAttr,
		trial{func() bool { return m.attrs(x.Table)[out.Col].Kind != m.attrs(x.Other)[out.OtherCol].Kind }, api.ErrType})
	if err == api.OK {
		m.setup.Rules = append(m.setup.Rules, out)
	}
	return err
}

func (m *model) deny(x api.Item) api.Errno {
	if outside(len(x.Vars), 1, 3) || outside(len(x.Conds), 1, 12) {
		return api.ErrLimit
	}
	out := api.Rule{Kind: api.RuleDeny, Name: x.Name}
	var names []string
	var rows [][]api.Attr
	for _, v := range x.Vars {
		if slices.Contains(names, v.Name) {
			return api.ErrTwice
		}
		if m.find(v.Table) < 0 {
			return api.ErrName
		}
		names = append(names, v.Name)
		rows = append(rows, m.attrs(v.Table))
		out.Tables = append(out.Tables, m.find(v.Table))
	}
	tests, err := modelTests(names, rows, x.Conds)
	if err == api.OK {
		out.Tests = tests
		m.setup.Rules = append(m.setup.Rules, out)
	}
	return err
}

// modelTests returns the tests of conditions on rows of variables, or the first error.
func modelTests(names []string, rows [][]api.Attr, conds []api.Cond) ([]api.Test, api.Errno) {
	var out []api.Test
	for _, c := range conds {
		if outside(c.Op, 1, 4) {
			return nil, api.ErrArg
		}
		var sides [2]api.Side
		var kinds [2]int
		for i, o := range []api.Operand{c.Left, c.Right} {
			row := slices.Index(names, o.Var)
			switch {
			case o.Const && !value.Valid(o.Value):
				return nil, api.ErrRange
			case o.Const:
				sides[i], kinds[i] = api.Side{Var: -1, Value: o.Value}, o.Value.Kind
			case row < 0 || seek(rows[row], o.Attr) < 0:
				return nil, api.ErrName
			default:
				col := seek(rows[row], o.Attr)
				sides[i], kinds[i] = api.Side{Var: row, Col: col}, rows[row][col].Kind
			}
		}
		err := first(wrong(outside(c.Add, -1000000000, 1000000000), api.ErrRange),
			wrong(c.Left.Const && c.Right.Const || c.Left.Const && c.Left.Value == null || c.Right.Const && c.Right.Value == null, api.ErrType),
			wrong(kinds[0] != kinds[1], api.ErrType),
			wrong(c.Add != 0 && (kinds[0] == api.KindText || kinds[0] == api.KindFlag), api.ErrType))
		if err != api.OK {
			return nil, err
		}
		out = append(out, api.Test{Left: sides[0], Op: c.Op, Right: sides[1], Add: c.Add})
	}
	return out, api.OK
}

// expr returns the plan of an expression and its levels, or the first error and its offset.
func (m *model) expr(x api.Expr) (api.Plan, int, api.Errno, int) {
	out := api.Plan{Kind: x.Kind}
	levels := 1
	for _, kid := range x.Kids {
		plan, below, err, at := m.expr(kid)
		if err != api.OK {
			return api.Plan{}, 0, err, at
		}
		out.Kids = append(out.Kids, plan)
		levels = max(levels, below+1)
	}
	kids := []int{-1, 0, 1, 1, 2, 2, 2, 1, 1}
	err := first(wrong(levels > 12, api.ErrLimit), wrong(outside(x.Kind, 1, 8), api.ErrArg), trial{func() bool { return kids[x.Kind] != len(x.Kids) }, api.ErrArg})
	if err == api.OK {
		err = m.fill(x, &out)
	}
	if err != api.OK {
		return api.Plan{}, 0, err, x.At
	}
	return out, levels, api.OK, 0
}

// fill fills the plan of an expression that has its kids, or returns the first error.
func (m *model) fill(x api.Expr, p *api.Plan) api.Errno {
	var kid, other []api.Attr
	if len(p.Kids) > 0 {
		kid = p.Kids[0].Attrs
	}
	if len(p.Kids) > 1 {
		other = p.Kids[1].Attrs
	}
	var err api.Errno
	switch x.Kind {
	case api.ExprTable:
		p.Table = m.find(x.Table)
		for _, a := range m.attrs(x.Table) {
			p.Attrs = append(p.Attrs, api.Attr{Name: append(slices.Clone(a.Was), a.Name)[0], Kind: a.Kind})
		}
		return first(wrong(p.Table < 0, api.ErrName))
	case api.ExprSelect:
		if outside(len(x.Conds), 1, 12) {
			return api.ErrLimit
		}
		p.Attrs = append(p.Attrs, kid...)
		p.Tests, err = modelTests([]string{""}, [][]api.Attr{kid}, x.Conds)
		return err
	case api.ExprProject:
		p.Cols, err = seekAll(kid, x.Names)
		for _, col := range p.Cols {
			p.Attrs = append(p.Attrs, kid[col])
		}
		return err
	case api.ExprJoin:
		p.Attrs = append(p.Attrs, kid...)
		for _, a := range other {
			i := seek(kid, a.Name)
			if i >= 0 && kid[i].Kind != a.Kind {
				return api.ErrType
			}
			if i < 0 {
				p.Attrs = append(p.Attrs, a)
			}
		}
		return first(wrong(len(p.Attrs) > 24, api.ErrLimit))
	case api.ExprUnion, api.ExprMinus:
		p.Attrs = append(p.Attrs, kid...)
		return first(wrong(!isEqual(kid, other), api.ErrType))
	case api.ExprRename:
		p.Attrs = append(p.Attrs, kid...)
		p.Col = seek(kid, x.Attr)
		at := seek(kid, x.As)
		err = first(wrong(p.Col < 0, api.ErrName), wrong(!nameForm.MatchString(x.As), api.ErrArg), wrong(at >= 0 && at != p.Col, api.ErrTwice))
		if err == api.OK {
			p.Attrs[p.Col].Name = x.As
		}
		return err
	}
	return fillGroup(x, kid, p)
}

// fillGroup fills the plan of a group, or returns the first error.
func fillGroup(x api.Expr, kid []api.Attr, p *api.Plan) api.Errno {
	cols, err := seekAll(kid, x.Names)
	if err != api.OK {
		return err
	}
	p.Cols, p.Agg, p.Col = cols, x.Agg, seek(kid, x.Attr)
	result := api.Attr{Name: x.As, Kind: api.KindNumber}
	if p.Col >= 0 {
		result.Kind = kid[p.Col].Kind
	}
	isCount := x.Agg == api.AggCount
	for _, col := range cols {
		p.Attrs = append(p.Attrs, kid[col])
	}
	p.Attrs = append(p.Attrs, result)
	err = first(
		wrong(outside(x.Agg, 1, 4) || !nameForm.MatchString(x.As), api.ErrArg),
		wrong(isCount && x.Attr != "", api.ErrArg),
		wrong(!isCount && p.Col < 0, api.ErrName),
		wrong(x.Agg == api.AggSum && result.Kind != api.KindNumber, api.ErrType),
		wrong(slices.Contains(x.Names, x.As), api.ErrTwice))
	return err
}

// random returns a source of numbers that are always the same ones in the same order.
func random() *rand.Rand { return rand.New(rand.NewPCG(10, 33)) }

// pick returns one of some elements.
func pick[T any](r *rand.Rand, list ...T) T { return list[r.IntN(len(list))] }

// maker makes random trees, most of whose items have no fault. It knows the tables so far.
type maker struct {
	*rand.Rand
	tables []api.Table
}

// name returns one of a few names.
func (r *maker) name() string {
	return pick(r.Rand, "a", "b", "c", "d", "e", "f", "g", "h", "i", "j", "k", "l", "m", "n", "o", "p")
}

// value returns a value of a kind.
func (r *maker) value(kind int) api.Value {
	switch kind {
	case api.KindText:
		return text(pick(r.Rand, "", "x", "a b"))
	case api.KindNumber:
		return number(pick(r.Rand, 0, -5, 7, 1000000000, -1000000000))
	case api.KindDay:
		return day(pick(r.Rand, 0, 3, 73048))
	case api.KindFlag:
		return flag(r.IntN(2))
	}
	return null
}

// some returns up to so many different numbers below a bound, and at least one.
func (r *maker) some(most, bound int) []int {
	return r.Perm(bound)[:1+r.IntN(min(most, bound))]
}

// table returns a table, and notes it.
func (r *maker) table() api.Item {
	x := api.Item{Kind: api.ItemTable, Name: r.name()}
	t := api.Table{Name: x.Name}
	for _, i := range r.some(5, 8) {
		kind := 1 + r.IntN(4)
		name := string(rune('a' + i))
		x.Columns = append(x.Columns, api.Column{Name: name, Kind: kind, Default: r.value(pick(r.Rand, 0, 0, kind))})
		t.Attrs = append(t.Attrs, api.Attr{Name: name, Kind: kind})
	}
	x.Names = r.names(t.Attrs, 2)
	if (&model{tables: r.tables}).find(t.Name) < 0 {
		r.tables = append(r.tables, t)
	}
	return x
}

// names returns the names of up to so many of some attributes.
func (r *maker) names(attrs []api.Attr, most int) []string {
	var out []string
	for _, i := range r.some(most, len(attrs)) {
		out = append(out, attrs[i].Name)
	}
	return out
}

// of returns an attribute of a kind, or any if there is none of it.
func (r *maker) of(attrs []api.Attr, kinds ...int) api.Attr {
	for range 20 {
		if a := pick(r.Rand, attrs...); slices.Contains(kinds, a.Kind) {
			return a
		}
	}
	return pick(r.Rand, attrs...)
}

// conds returns conditions on rows of variables.
func (r *maker) conds(vars []string, rows [][]api.Attr) []api.Cond {
	var out []api.Cond
	for range 1 + r.IntN(3) {
		c := api.Cond{Op: 1 + r.IntN(4)}
		i, k := r.IntN(len(vars)), r.IntN(len(vars))
		a := pick(r.Rand, rows[i]...)
		c.Left = of(vars[i], a.Name)
		c.Right = of(vars[k], r.of(rows[k], a.Kind).Name)
		if r.IntN(2) == 0 {
			c.Right = constant(r.value(a.Kind))
		}
		if r.IntN(4) == 0 {
			c.Left, c.Right = c.Right, c.Left
		}
		if a.Kind == api.KindNumber || a.Kind == api.KindDay {
			c.Add = pick(r.Rand, 0, 3, -1000000000)
		}
		out = append(out, c)
	}
	return out
}

// item returns an item over the tables so far, of which there has to be one.
func (r *maker) item() api.Item {
	t := pick(r.Rand, r.tables...)
	a := pick(r.Rand, t.Attrs...)
	x := api.Item{Kind: 2 + r.IntN(9), Name: r.name(), Table: t.Name, Attr: a.Name}
	switch x.Kind {
	case api.ItemOrigin:
		return api.Item{Kind: x.Kind, Name: x.Name, N: r.IntN(101)}
	case api.ItemBlock:
		x.By = 1 + r.IntN(4)
		if x.By >= api.ByPrefix {
			x.N = 12
		}
		if x.By == api.BySketch {
			x.M = pick(r.Rand, 1, 2, 3, 4, 6, 12)
		}
	case api.ItemMatch:
		x.Attr, x.N = "", r.IntN(10001)
		for range 1 + r.IntN(3) {
			x.Terms = append(x.Terms, r.term(t.Attrs))
		}
	case api.ItemKeep:
		x.Name, x.By = "", 1+r.IntN(6)
	case api.ItemUnique:
		x.Attr, x.Names = "", r.names(t.Attrs, 3)
	case api.ItemDepend:
		x.Names = r.names(t.Attrs, 2)
		for _, i := range r.some(2, len(t.Attrs)) {
			x.Fixed = append(x.Fixed, api.Named{Name: t.Attrs[i].Name, Value: r.value(t.Attrs[i].Kind)})
		}
	case api.ItemInclude:
		other := pick(r.Rand, r.tables...)
		x.Other, x.OtherAttr = other.Name, r.of(other.Attrs, a.Kind).Name
	case api.ItemDeny:
		x.Table, x.Attr = "", ""
		var names []string
		var rows [][]api.Attr
		for _, i := range r.some(3, 3) {
			t := pick(r.Rand, r.tables...)
			name := string(rune('x' + i))
			x.Vars = append(x.Vars, api.Var{Name: name, Table: t.Name})
			names, rows = append(names, name), append(rows, t.Attrs)
		}
		x.Conds = r.conds(names, rows)
	case api.ItemQuery:
		expr, _ := r.expr(1 + r.IntN(5))
		return api.Item{Kind: x.Kind, Name: x.Name, Expr: expr}
	}
	return x
}

// term returns a term of a match.
func (r *maker) term(attrs []api.Attr) api.Term {
	t := api.Term{Measure: 1 + r.IntN(5), Least: pick(r.Rand, api.Ratio{Num: 0, Den: 1}, api.Ratio{Num: 1, Den: 1}, api.Ratio{Num: 3, Den: 4}), Gives: r.IntN(1001), Takes: r.IntN(1001)}
	if t.Measure == api.MeasureNear {
		t.Tolerance = r.IntN(1000)
	}
	t.Attr = r.of(attrs, [][]int{{1, 2, 3, 4}, {1}, {1}, {1}, {2, 3}}[t.Measure-1]...).Name
	return t
}

// expr returns an expression of at most so many levels, and its attributes if it has no fault.
func (r *maker) expr(levels int) (api.Expr, []api.Attr) {
	m := model{tables: r.tables}
	x := api.Expr{Kind: 1 + r.IntN(8)}
	if levels == 1 || x.Kind == api.ExprTable {
		t := pick(r.Rand, r.tables...)
		return relation(t.Name), t.Attrs
	}
	kid, attrs := r.expr(levels - 1)
	x.Kids = []api.Expr{kid}
	if len(attrs) == 0 {
		x.Kind = pick(r.Rand, api.ExprProject, api.ExprJoin)
	}
	switch x.Kind {
	case api.ExprSelect:
		x.Conds = r.conds([]string{""}, [][]api.Attr{attrs})
	case api.ExprProject:
		if r.IntN(8) > 0 && len(attrs) > 0 {
			x.Names = r.names(attrs, len(attrs))
		}
	case api.ExprJoin:
		other, _ := r.expr(levels - 1)
		x.Kids = append(x.Kids, other)
	case api.ExprUnion, api.ExprMinus:
		x.Kids = append(x.Kids, r.same(kid))
	case api.ExprRename:
		x.Attr, x.As = pick(r.Rand, attrs...).Name, r.name()
	case api.ExprGroup:
		x.Names = r.names(attrs, 3)
		x.Agg, x.As = 1+r.IntN(4), r.name()
		if x.Agg != api.AggCount {
			x.Attr = r.of(attrs, api.KindNumber).Name
		}
	}
	plan, _, _, _ := m.expr(x)
	return x, plan.Attrs
}

// same returns an expression with the attributes of another one, or mostly so.
func (r *maker) same(x api.Expr) api.Expr {
	if x.Kind == api.ExprTable && r.IntN(4) == 0 {
		return relation(pick(r.Rand, r.tables...).Name)
	}
	return copied(x)
}

// program returns a tree of some tables and so many other items among them.
func (r *maker) program(n int) api.Program {
	r.tables = nil
	var tables, others []api.Item
	for range 1 + r.IntN(3) {
		tables = append(tables, r.table())
	}
	for range n {
		others = append(others, r.item())
	}
	return placed(mixed(r.Rand, tables, others))
}

// mixed returns a list of the items of several ones, each of which stays in order.
func mixed(r *rand.Rand, lists ...[]api.Item) []api.Item {
	rest := slices.Clone(lists)
	var out []api.Item
	for {
		rest = slices.DeleteFunc(rest, func(list []api.Item) bool { return len(list) == 0 })
		if len(rest) == 0 {
			return out
		}
		i := r.IntN(len(rest))
		out, rest[i] = append(out, rest[i][0]), rest[i][1:]
	}
}

// placed returns a tree of items in which each stands 1000 behind the one before, and its expressions behind it.
func placed(items []api.Item) api.Program {
	for i := range items {
		items[i].At = 1000 * i
		at := items[i].At
		place(&items[i].Expr, &at)
	}
	return api.Program{Items: items}
}

// place sets the offsets of an expression, and of those in it, to different ones.
func place(x *api.Expr, at *int) {
	*at++
	x.At = *at
	for i := range x.Kids {
		place(&x.Kids[i], at)
	}
}

// isFaulty reports whether one of some faults is that of an item that was placed.
func isFaulty(x api.Item, faults []api.Fault) bool {
	return slices.ContainsFunc(faults, func(f api.Fault) bool { return f.At/1000*1000 == x.At })
}

// checkModel checks what Resolve returns for a tree against the model, and returns the errors of its faults.
func checkModel(t *testing.T, p api.Program) []api.Errno {
	t.Helper()
	want, wanted := modelResolve(p)
	got, faults := resolve.Resolve(p)
	check(t, p, got, faults, want, wanted)
	var out []api.Errno
	for _, f := range faults {
		out = append(out, f.Err)
	}
	return out
}
