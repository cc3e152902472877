package resolve

import (
	"slices"

	"cleanse/api"
)

// Limits of queries and of conditions.
const (
	maxConds  = 12
	maxJoined = 24
)

// tuple is a row that conditions are about: the name of its variable, which is empty in queries, and its attributes.
type tuple struct {
	name  string
	attrs []api.Attr
}

// tests resolves conditions on tuples.
func (r *resolver) tests(tuples []tuple, conds []api.Cond) []api.Test {
	var out []api.Test
	for _, c := range conds {
		out = append(out, r.test(tuples, c))
	}
	return out
}

// test resolves a condition. An attribute is never of the kind of null, so that null has another kind than the other side.
func (r *resolver) test(tuples []tuple, c api.Cond) api.Test {
	r.require(isFrom(api.OpEqual, c.Op, api.OpAtMost), api.ErrArg)
	left, kind := r.side(tuples, c.Left)
	right, other := r.side(tuples, c.Right)
	r.require(isFrom(-api.MaxNumber, c.Add, api.MaxNumber), api.ErrRange)
	r.require(!c.Left.Const || !c.Right.Const, api.ErrType)
	r.require(kind == other && (c.Add == 0 || isMeasurable(kind)), api.ErrType)
	return api.Test{Left: left, Op: c.Op, Right: right, Add: c.Add}
}

// side resolves a side of a condition, and returns its kind, too.
func (r *resolver) side(tuples []tuple, o api.Operand) (api.Side, int) {
	if o.Const {
		constant := r.value(o.Value)
		return api.Side{Var: -1, Value: constant}, constant.Kind
	}
	i := slices.IndexFunc(tuples, func(t tuple) bool { return t.name == o.Var })
	r.require(i >= 0, api.ErrName)
	col := r.column(tuples[i].attrs, o.Attr)
	return api.Side{Var: i, Col: col}, tuples[i].attrs[col].Kind
}

// query resolves a query.
func (r *resolver) query(x api.Item) {
	r.setup.Queries = append(r.setup.Queries, api.Query{Name: x.Name, Plan: r.expr(&x.Expr)})
}

// expr resolves the expression of a query. There may be more levels than calls can be nested, so it goes down to where they are few: a kid with too many levels has a fault, so that nothing behind it matters. An expression that contains itself has too many levels, too.
func (r *resolver) expr(x *api.Expr) api.Plan {
	isMet := map[*api.Expr]bool{}
	for !isMet[x] {
		isMet[x] = true
		deep := firstWithMore(x.Kids, api.MaxDepth)
		if deep < 0 {
			return r.plan(*x)
		}
		for _, kid := range x.Kids[:deep] {
			r.plan(kid)
		}
		x = &x.Kids[deep]
	}
	panic(api.Fault{Err: api.ErrLimit, At: x.At})
}

// firstWithMore returns the index of the first expression of a list that has more than so many levels, or -1.
func firstWithMore(list []api.Expr, levels int) int {
	for i := range list {
		if levels == 0 || firstWithMore(list[i].Kids, levels-1) >= 0 {
			return i
		}
	}
	return -1
}

// operation is what a kind of expressions has: the number of its kids, and the method that fills its plan, in which the kids are.
type operation struct {
	kids int
	fill func(r *resolver, x api.Expr, p *api.Plan)
}

// plan resolves an expression whose kids do not have too many levels.
func (r *resolver) plan(x api.Expr) api.Plan {
	operations := map[int]operation{
		api.ExprTable:   {0, (*resolver).relation},
		api.ExprSelect:  {1, (*resolver).selection},
		api.ExprProject: {1, (*resolver).projection},
		api.ExprJoin:    {2, (*resolver).join},
		api.ExprUnion:   {2, (*resolver).combination},
		api.ExprMinus:   {2, (*resolver).combination},
		api.ExprRename:  {1, (*resolver).renaming},
		api.ExprGroup:   {1, (*resolver).grouping},
	}
	var resolve func(x api.Expr) (p api.Plan, levels int)
	resolve = func(x api.Expr) (p api.Plan, levels int) {
		o, isKind := operations[x.Kind]
		p.Kind = x.Kind
		for i, kid := range x.Kids {
			plan, below := resolve(kid)
			levels = max(levels, below)
			if i < o.kids {
				p.Kids = append(p.Kids, plan)
			}
		}
		r.at = x.At
		r.require(levels < api.MaxDepth, api.ErrLimit)
		r.require(isKind && len(x.Kids) == o.kids, api.ErrArg)
		o.fill(r, x, &p)
		return p, levels + 1
	}
	p, _ := resolve(x)
	return p
}

// relation resolves a table. Its attributes have their first names, so that queries stay as they are when attributes are renamed.
func (r *resolver) relation(x api.Expr, p *api.Plan) {
	p.Table = r.find(x.Table)
	for _, a := range r.attrs(p.Table) {
		names := slices.Concat(a.Was, []string{a.Name})
		p.Attrs = append(p.Attrs, api.Attr{Name: names[0], Kind: a.Kind})
	}
}

// selection resolves a select.
func (r *resolver) selection(x api.Expr, p *api.Plan) {
	r.require(isFrom(1, len(x.Conds), maxConds), api.ErrLimit)
	p.Attrs = slices.Clone(p.Kids[0].Attrs)
	p.Tests = r.tests([]tuple{{"", p.Attrs}}, x.Conds)
}

// projection resolves a project.
func (r *resolver) projection(x api.Expr, p *api.Plan) {
	p.Cols = r.columns(p.Kids[0].Attrs, x.Names)
	p.Attrs = chosen(p.Kids[0].Attrs, p.Cols)
}

// join resolves a join.
func (r *resolver) join(_ api.Expr, p *api.Plan) {
	first := p.Kids[0].Attrs
	p.Attrs = slices.Clone(first)
	for _, a := range p.Kids[1].Attrs {
		i := column(first, a.Name)
		if i < 0 {
			p.Attrs = append(p.Attrs, a)
			continue
		}
		r.require(first[i].Kind == a.Kind, api.ErrType)
	}
	r.require(len(p.Attrs) <= maxJoined, api.ErrLimit)
}

// combination resolves a union or a minus.
func (r *resolver) combination(_ api.Expr, p *api.Plan) {
	first, second := p.Kids[0].Attrs, p.Kids[1].Attrs
	isSame := func(a, b api.Attr) bool { return a.Name == b.Name && a.Kind == b.Kind }
	r.require(slices.EqualFunc(first, second, isSame), api.ErrType)
	p.Attrs = slices.Clone(first)
}

// renaming resolves a rename.
func (r *resolver) renaming(x api.Expr, p *api.Plan) {
	p.Attrs = slices.Clone(p.Kids[0].Attrs)
	p.Col = r.column(p.Attrs, x.Attr)
	as := r.name(x.As)
	r.require(as == x.Attr || column(p.Attrs, as) < 0, api.ErrTwice)
	p.Attrs[p.Col].Name = as
}

// grouping resolves a group.
func (r *resolver) grouping(x api.Expr, p *api.Plan) {
	attrs := p.Kids[0].Attrs
	p.Cols = r.columns(attrs, x.Names)
	r.require(isFrom(api.AggCount, x.Agg, api.AggGreatest), api.ErrArg)
	result := api.Attr{Name: r.name(x.As), Kind: api.KindNumber}
	p.Agg, p.Col = x.Agg, -1
	if x.Agg == api.AggCount {
		r.require(x.Attr == "", api.ErrArg)
	} else {
		p.Col = r.column(attrs, x.Attr)
		result.Kind = attrs[p.Col].Kind
	}
	r.require(x.Agg != api.AggSum || result.Kind == api.KindNumber, api.ErrType)
	r.require(!slices.Contains(x.Names, x.As), api.ErrTwice)
	p.Attrs = append(chosen(attrs, p.Cols), result)
}

// chosen returns the attributes with some indices.
func chosen(attrs []api.Attr, cols []int) []api.Attr {
	var out []api.Attr
	for _, col := range cols {
		out = append(out, attrs[col])
	}
	return out
}
