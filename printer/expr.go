package printer

import (
	"cmp"
	"slices"

	"cleanse/api"
)

// expr writes an expression. One beyond the limit of levels waits: there may be more levels below it than calls can be nested.
func (p *printer) expr(x *api.Expr) {
	if p.level == api.MaxDepth {
		p.wait(x)
		return
	}
	p.level++
	p.operation(*x)
	p.level--
}

// wait notes an expression beyond the limit of levels, unless it was met before: a tree may contain itself.
func (p *printer) wait(x *api.Expr) {
	if !p.isMet[x] {
		p.isMet[x] = true
		p.waiting = append(p.waiting, x)
	}
}

// tooDeep writes the expressions beyond the limit of levels one by one, their kids after them. Such a text is not returned, but they have to be printable.
func (p *printer) tooDeep() {
	p.level = api.MaxDepth
	for len(p.waiting) > 0 {
		last := len(p.waiting) - 1
		x := p.waiting[last]
		p.waiting = p.waiting[:last]
		p.operation(*x)
	}
}

// operation writes an expression by its kind.
func (p *printer) operation(x api.Expr) {
	require(x.Kind >= api.ExprTable && x.Kind <= api.ExprGroup)
	write := [...]func(p *printer, x api.Expr){
		api.ExprTable:   (*printer).relation,
		api.ExprSelect:  (*printer).selection,
		api.ExprProject: (*printer).projection,
		api.ExprJoin:    (*printer).pair,
		api.ExprUnion:   (*printer).pair,
		api.ExprMinus:   (*printer).pair,
		api.ExprRename:  (*printer).renaming,
		api.ExprGroup:   (*printer).grouping,
	}
	write[x.Kind](p, x)
}

// relation writes the name of a table.
func (p *printer) relation(x api.Expr) {
	onlyExpr(x, api.Expr{Table: x.Table})
	p.put(name(x.Table))
}

// selection writes a select.
func (p *printer) selection(x api.Expr) {
	onlyExpr(x, api.Expr{Kids: x.Kids, Conds: x.Conds})
	p.begin("select", x.Kids, 1)
	p.conds(x.Conds)
	p.put(")")
}

// projection writes a project.
func (p *printer) projection(x api.Expr) {
	onlyExpr(x, api.Expr{Kids: x.Kids, Names: x.Names})
	p.begin("project", x.Kids, 1)
	p.on(x.Names)
	p.put(")")
}

// pair writes an operation with two kids.
func (p *printer) pair(x api.Expr) {
	onlyExpr(x, api.Expr{Kids: x.Kids})
	words := [...]string{api.ExprJoin: "join", api.ExprUnion: "union", api.ExprMinus: "minus"}
	p.begin(words[x.Kind], x.Kids, 2)
	p.put(")")
}

// renaming writes a rename.
func (p *printer) renaming(x api.Expr) {
	onlyExpr(x, api.Expr{Kids: x.Kids, Attr: x.Attr, As: x.As})
	p.begin("rename", x.Kids, 1)
	p.put(",", name(x.Attr), "as", name(x.As), ")")
}

// grouping writes a group. Where its attributes begin, "with" is a key word.
func (p *printer) grouping(x api.Expr) {
	has := api.Expr{Kids: x.Kids, Names: x.Names, Agg: x.Agg, As: x.As}
	require(len(x.Names) == 0 || x.Names[0] != "with")
	p.begin("group", x.Kids, 1)
	p.on(x.Names)
	p.put("with", choose(x.Agg, "count", "sum", "least", "greatest"))
	if x.Agg != api.AggCount {
		has.Attr = x.Attr
		p.put(name(x.Attr))
	}
	onlyExpr(x, has)
	p.put("as", name(x.As), ")")
}

// begin writes the beginning of an operation with so many kids.
func (p *printer) begin(word string, kids []api.Expr, count int) {
	require(len(kids) == count)
	p.put(word, "(")
	for i := range kids {
		if i > 0 {
			p.put(",")
		}
		p.expr(&kids[i])
	}
}

// on writes the attributes of an operation, if there are any.
func (p *printer) on(names []string) {
	p.put("on")
	if len(names) > 0 {
		p.names(names...)
	}
}

// conds writes conditions, with "where" before them.
func (p *printer) conds(conds []api.Cond) {
	p.put("where")
	list(p, "and", conds, p.cond)
}

// cond writes a condition.
func (p *printer) cond(c api.Cond) {
	p.side(c.Left)
	p.put(choose(c.Op, "=", "!=", "<", "<="))
	p.side(c.Right)
	if c.Add > 0 {
		p.put("+", number(c.Add))
	} else if c.Add < 0 {
		p.put("-", number(-c.Add))
	}
}

// side writes a side of a condition. Where it begins, the names of values are values.
func (p *printer) side(o api.Operand) {
	if o.Const {
		require(o.Var == "" && o.Attr == "")
		p.value(o.Value)
		return
	}
	require(o.Value == api.Value{})
	require(!slices.Contains([]string{"true", "false", "null"}, cmp.Or(o.Var, o.Attr)))
	if o.Var != "" {
		p.put(name(o.Var), ".")
	}
	p.put(name(o.Attr))
}

// onlyExpr refuses an expression that has something else than what another one has, as onlyItem does. Their kinds do not matter.
func onlyExpr(x, has api.Expr) {
	require(x.Table == has.Table && x.Attr == has.Attr && x.As == has.As && x.Agg == has.Agg)
	require(len(x.Kids) == len(has.Kids) && len(x.Conds) == len(has.Conds) && len(x.Names) == len(has.Names))
}
