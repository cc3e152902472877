package resolve

import (
	"slices"

	"cleanse/api"
	"cleanse/ratio"
	"cleanse/schema"
)

// Ranges of the numbers of items.
const (
	maxTrust     = 100
	maxPrefix    = 24
	maxSketch    = 64
	maxAt        = 10000
	maxWeight    = 1000
	maxTolerance = 999999999
	maxTerms     = 12
	maxVars      = 3
)

// table resolves a table.
func (r *resolver) table(x api.Item) {
	r.require(len(r.setup.Schema.Tables) < api.MaxTables, api.ErrLimit)
	r.require(isFrom(1, len(x.Columns), api.MaxAttrs), api.ErrLimit)
	t := api.Table{Name: x.Name}
	for _, c := range x.Columns {
		name := r.name(c.Name)
		r.require(isFrom(api.KindText, c.Kind, api.KindFlag), api.ErrArg)
		r.require(column(t.Attrs, name) < 0, api.ErrTwice)
		standard := r.value(c.Default)
		r.require(standard.Kind == api.KindNull || standard.Kind == c.Kind, api.ErrType)
		t.Attrs = append(t.Attrs, api.Attr{Name: name, Kind: c.Kind, Default: standard})
	}
	r.require(len(x.Names) > 0, api.ErrArg)
	t.Key = r.columns(t.Attrs, x.Names)
	slices.Sort(t.Key)
	r.setup.Schema.Tables = append(r.setup.Schema.Tables, t)
}

// origin resolves a source.
func (r *resolver) origin(x api.Item) {
	r.require(len(r.setup.Origins) < api.MaxOrigins, api.ErrLimit)
	r.require(isFrom(0, x.N, maxTrust), api.ErrRange)
	r.setup.Origins = append(r.setup.Origins, api.Origin{Name: x.Name, Trust: x.N})
}

// block resolves a block.
func (r *resolver) block(x api.Item) {
	b := api.Block{Name: x.Name, By: x.By}
	b.Table, b.Col = r.place(x.Table, x.Attr)
	r.require(isFrom(api.ByExact, x.By, api.BySketch), api.ErrArg)
	switch x.By {
	case api.ByPrefix:
		r.require(isFrom(1, x.N, maxPrefix), api.ErrRange)
		b.N = x.N
	case api.BySketch:
		r.require(isFrom(1, x.N, maxSketch) && x.M >= 1 && x.N%x.M == 0, api.ErrRange)
		b.N, b.M = x.N, x.M
	}
	r.setup.Blocks = append(r.setup.Blocks, b)
}

// match resolves a match.
func (r *resolver) match(x api.Item) {
	m := api.Match{Name: x.Name, Table: r.find(x.Table), At: x.N}
	r.require(isFrom(1, len(x.Terms), maxTerms), api.ErrLimit)
	r.require(isFrom(0, x.N, maxAt), api.ErrRange)
	for _, t := range x.Terms {
		m.Terms = append(m.Terms, r.term(r.attrs(m.Table), t))
	}
	r.setup.Matches = append(r.setup.Matches, m)
}

// term resolves a term of a match over a table with some attributes.
func (r *resolver) term(attrs []api.Attr, t api.Term) api.Weigh {
	w := api.Weigh{Col: r.column(attrs, t.Attr), Measure: t.Measure, Least: t.Least, Gives: t.Gives, Takes: t.Takes}
	r.require(isFrom(api.MeasureEqual, t.Measure, api.MeasureNear), api.ErrArg)
	r.require(ratio.Valid(t.Least) && isFrom(0, t.Least.Num, t.Least.Den), api.ErrRange)
	r.require(isFrom(0, t.Gives, maxWeight) && isFrom(0, t.Takes, maxWeight), api.ErrRange)
	kind := attrs[w.Col].Kind
	switch t.Measure {
	case api.MeasureEdit, api.MeasureJaccard, api.MeasureJaro:
		r.require(kind == api.KindText, api.ErrType)
	case api.MeasureNear:
		r.require(isFrom(0, t.Tolerance, maxTolerance), api.ErrRange)
		r.require(isMeasurable(kind), api.ErrType)
		w.Tolerance = t.Tolerance
	}
	return w
}

// keep resolves a keep.
func (r *resolver) keep(x api.Item) {
	k := api.Keep{By: x.By}
	k.Table, k.Col = r.place(x.Table, x.Attr)
	r.require(isFrom(api.KeepLatest, x.By, api.KeepGreatest), api.ErrArg)
	isSame := func(other api.Keep) bool { return other.Table == k.Table && other.Col == k.Col }
	r.require(!slices.ContainsFunc(r.setup.Keeps, isSame), api.ErrTwice)
	r.require(x.By != api.KeepLongest || r.attrs(k.Table)[k.Col].Kind == api.KindText, api.ErrType)
	r.setup.Keeps = append(r.setup.Keeps, k)
}

// unique resolves a unique.
func (r *resolver) unique(x api.Item) {
	r.rule(r.cols(api.RuleUnique, x))
}

// depend resolves a depend.
func (r *resolver) depend(x api.Item) {
	rule := r.cols(api.RuleDepend, x)
	attrs := r.attrs(rule.Table)
	rule.Col = r.column(attrs, x.Attr)
	r.require(!slices.Contains(rule.Cols, rule.Col), api.ErrArg)
	for _, n := range x.Fixed {
		col := r.column(attrs, n.Name)
		isSame := func(other api.Fixed) bool { return other.Col == col }
		r.require(!slices.ContainsFunc(rule.Fixed, isSame), api.ErrTwice)
		constant := r.value(n.Value)
		r.require(constant.Kind == attrs[col].Kind, api.ErrType)
		rule.Fixed = append(rule.Fixed, api.Fixed{Col: col, Value: constant})
	}
	r.rule(rule)
}

// include resolves an include.
func (r *resolver) include(x api.Item) {
	rule := api.Rule{Kind: api.RuleInclude, Name: x.Name}
	rule.Table, rule.Col = r.place(x.Table, x.Attr)
	rule.Other, rule.OtherCol = r.place(x.Other, x.OtherAttr)
	r.require(r.attrs(rule.Table)[rule.Col].Kind == r.attrs(rule.Other)[rule.OtherCol].Kind, api.ErrType)
	r.rule(rule)
}

// deny resolves a deny.
func (r *resolver) deny(x api.Item) {
	r.require(isFrom(1, len(x.Vars), maxVars) && isFrom(1, len(x.Conds), maxConds), api.ErrLimit)
	rule := api.Rule{Kind: api.RuleDeny, Name: x.Name}
	var tuples []tuple
	for _, v := range x.Vars {
		isSame := func(other tuple) bool { return other.name == v.Name }
		r.require(!slices.ContainsFunc(tuples, isSame), api.ErrTwice)
		table := r.find(v.Table)
		rule.Tables = append(rule.Tables, table)
		tuples = append(tuples, tuple{v.Name, r.attrs(table)})
	}
	rule.Tests = r.tests(tuples, x.Conds)
	r.rule(rule)
}

// cols returns a constraint of a kind with the table and the attributes of an item.
func (r *resolver) cols(kind int, x api.Item) api.Rule {
	rule := api.Rule{Kind: kind, Name: x.Name, Table: r.find(x.Table)}
	r.require(len(x.Names) > 0, api.ErrArg)
	rule.Cols = r.columns(r.attrs(rule.Table), x.Names)
	return rule
}

// rule adds a constraint.
func (r *resolver) rule(rule api.Rule) {
	r.setup.Rules = append(r.setup.Rules, rule)
}

// find returns the index of the table with a name.
func (r *resolver) find(table string) int {
	i := schema.Find(r.setup.Schema, table)
	r.require(i >= 0, api.ErrName)
	return i
}

// attrs returns the attributes of the table with an index.
func (r *resolver) attrs(table int) []api.Attr {
	return r.setup.Schema.Tables[table].Attrs
}

// place returns the indices of a table and of an attribute of it.
func (r *resolver) place(table, attr string) (int, int) {
	i := r.find(table)
	return i, r.column(r.attrs(i), attr)
}

// columns returns the indices of the attributes with some names, which are those of different ones.
func (r *resolver) columns(attrs []api.Attr, names []string) []int {
	var out []int
	for _, name := range names {
		i := r.column(attrs, name)
		r.require(!slices.Contains(out, i), api.ErrTwice)
		out = append(out, i)
	}
	return out
}

// column returns the index of the attribute with a name.
func (r *resolver) column(attrs []api.Attr, name string) int {
	i := column(attrs, name)
	r.require(i >= 0, api.ErrName)
	return i
}

// column returns the index of the attribute that has, or had, a name, or -1.
func column(attrs []api.Attr, name string) int {
	return schema.Column(api.Table{Attrs: attrs}, name)
}

// isMeasurable reports whether values of a kind have differences.
func isMeasurable(kind int) bool {
	return kind == api.KindNumber || kind == api.KindDay
}
