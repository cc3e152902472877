package printer_test

import (
	"fmt"
	"math/rand/v2"
	"regexp"
	"strings"

	"cleanse/api"
	"cleanse/parser"
	"cleanse/value"
)

// model writes items by templates that have their gaps in them. Whether what is optional is written although it need not be is up to a function. What has no text of its kind is written as something that is none.
type model struct {
	optional func(text string) string
}

// canonical writes nothing that need not be written.
var canonical = model{func(string) string { return "" }}

// word returns the word with a number, counted from 1.
func word(n int, list ...string) string {
	if n < 1 || n > len(list) {
		return "?"
	}
	return list[n-1]
}

// joined returns the texts of elements with another text between two of them.
func joined[T any](list []T, between string, write func(T) string) string {
	var out []string
	for _, element := range list {
		out = append(out, write(element))
	}
	return strings.Join(out, between)
}

// item returns the text of an item with the end of its line.
func (m model) item(x api.Item) string {
	names := strings.Join(x.Names, ", ")
	switch x.Kind {
	case api.ItemTable:
		return fmt.Sprintf("table %s(%s) key %s;\n", x.Name, joined(x.Columns, ", ", m.column), names)
	case api.ItemOrigin:
		return fmt.Sprintf("source %s trust %d;\n", x.Name, x.N)
	case api.ItemBlock:
		by := word(x.By, "exact", "token", fmt.Sprintf("prefix %d", x.N), fmt.Sprintf("sketch %d %d", x.N, x.M))
		return fmt.Sprintf("block %s on %s.%s by %s;\n", x.Name, x.Table, x.Attr, by)
	case api.ItemMatch:
		return fmt.Sprintf("match %s on %s at %d {\n%s}\n", x.Name, x.Table, x.N, joined(x.Terms, "", m.term))
	case api.ItemKeep:
		return fmt.Sprintf("keep %s.%s by %s;\n", x.Table, x.Attr, word(x.By, "latest", "most", "trusted", "longest", "least", "greatest"))
	case api.ItemUnique:
		return fmt.Sprintf("unique %s on %s(%s);\n", x.Name, x.Table, names)
	case api.ItemDepend:
		where := ""
		if len(x.Fixed) > 0 {
			where = " where " + joined(x.Fixed, ", ", func(n api.Named) string { return n.Name + " = " + m.value(n.Value) })
		}
		return fmt.Sprintf("depend %s on %s(%s) to %s%s;\n", x.Name, x.Table, names, x.Attr, where)
	case api.ItemInclude:
		return fmt.Sprintf("include %s %s.%s in %s.%s;\n", x.Name, x.Table, x.Attr, x.Other, x.OtherAttr)
	case api.ItemDeny:
		vars := joined(x.Vars, ", ", func(v api.Var) string { return v.Table + " " + v.Name })
		return fmt.Sprintf("deny %s %s where %s;\n", x.Name, vars, joined(x.Conds, " and ", m.cond))
	case api.ItemQuery:
		return fmt.Sprintf("query %s = %s;\n", x.Name, m.expr(x.Expr))
	}
	return "?"
}

func (m model) column(c api.Column) string {
	out := c.Name + " " + word(c.Kind, "text", "number", "day", "flag")
	if c.Default.Kind == api.KindNull {
		return out + m.optional(" = null")
	}
	return out + " = " + m.value(c.Default)
}

func (m model) term(t api.Term) string {
	measure := word(t.Measure, "equal", "edit", "jaccard", "jaro", fmt.Sprintf("near %d", t.Tolerance))
	out := fmt.Sprintf("  %s %s least %d", t.Attr, measure, t.Least.Num)
	if t.Least.Den == 1 {
		out += m.optional("/1")
	} else {
		out += fmt.Sprintf("/%d", t.Least.Den)
	}
	out += fmt.Sprintf(" gives %d", t.Gives)
	if t.Takes == 0 {
		out += m.optional(" takes 0")
	} else {
		out += fmt.Sprintf(" takes %d", t.Takes)
	}
	return out + ";\n"
}

func (m model) value(v api.Value) string {
	switch v.Kind {
	case api.KindText:
		return value.Text(v)
	case api.KindNumber:
		if v.N == 0 {
			return m.optional("-") + "0"
		}
		return fmt.Sprint(v.N)
	case api.KindDay:
		return fmt.Sprintf("@%d", v.N)
	case api.KindFlag:
		return fmt.Sprint(v.N != 0)
	}
	return "null"
}

func (m model) cond(c api.Cond) string {
	out := m.side(c.Left) + " " + word(c.Op, "=", "!=", "<", "<=") + " " + m.side(c.Right)
	switch {
	case c.Add > 0:
		return fmt.Sprintf("%s + %d", out, c.Add)
	case c.Add < 0:
		return fmt.Sprintf("%s - %d", out, -c.Add)
	}
	return out + m.optional(" + 0")
}

func (m model) side(o api.Operand) string {
	switch {
	case o.Const:
		return m.value(o.Value)
	case o.Var != "":
		return o.Var + "." + o.Attr
	}
	return o.Attr
}

func (m model) expr(x api.Expr) string {
	kids := joined(x.Kids, ", ", m.expr)
	on := " on"
	if len(x.Names) > 0 {
		on += " " + strings.Join(x.Names, ", ")
	}
	switch x.Kind {
	case api.ExprTable:
		return x.Table
	case api.ExprSelect:
		return fmt.Sprintf("select(%s where %s)", kids, joined(x.Conds, " and ", m.cond))
	case api.ExprProject:
		return fmt.Sprintf("project(%s%s)", kids, on)
	case api.ExprJoin:
		return fmt.Sprintf("join(%s)", kids)
	case api.ExprUnion:
		return fmt.Sprintf("union(%s)", kids)
	case api.ExprMinus:
		return fmt.Sprintf("minus(%s)", kids)
	case api.ExprRename:
		return fmt.Sprintf("rename(%s, %s as %s)", kids, x.Attr, x.As)
	case api.ExprGroup:
		agg := word(x.Agg, "count", "sum "+x.Attr, "least "+x.Attr, "greatest "+x.Attr)
		return fmt.Sprintf("group(%s%s with %s as %s)", kids, on, agg, x.As)
	}
	return "?"
}

// modelText returns what a tree has as its text if it is printable.
func modelText(p api.Program) string { return joined(p.Items, "", canonical.item) }

// isPrintable reports whether a tree is printable, limits aside: whether it is that of a text. If it is, it is that of the text by the model; if it is not, it cannot be that of this text, whatever the model writes.
func isPrintable(p api.Program) bool {
	for _, x := range p.Items {
		got, err, _ := parser.Parse(canonical.item(x))
		if err != api.OK || !isEqual(without(got), without(program(x))) {
			return false
		}
	}
	return true
}

// random returns a source of numbers that are always the same ones in the same order.
func random() *rand.Rand { return rand.New(rand.NewPCG(9, 29)) }

// pick returns one of some elements.
func pick[T any](r *rand.Rand, list ...T) T { return list[r.IntN(len(list))] }

// sloppy returns a text of a tree: one of those that can be parsed.
func sloppy(r *rand.Rand, p api.Program) string {
	m := model{func(text string) string { return pick(r, "", text) }}
	out := someGap(r)
	last := ""
	for _, token := range tokenPattern.FindAllString(joined(p.Items, "", m.item), -1) {
		if token[0] >= '0' && token[0] <= '9' {
			token = strings.Repeat("0", pick(r, 0, 0, r.IntN(11-len(token)))) + token
		}
		gap := someGap(r)
		if gap == "" && isWord(last) && isWord(token) {
			gap = "\t"
		}
		out += gap + token
		last = token
	}
	return out + someGap(r)
}

var tokenPattern = regexp.MustCompile(`"(\\.|[^"\\])*"|\w+|!=|<=|\S`)

// isWord reports whether a token is a name or a number.
func isWord(token string) bool { return regexp.MustCompile(`^\w+$`).MatchString(token) }

// someGap returns a gap, which may be empty.
func someGap(r *rand.Rand) string {
	out := ""
	for range r.IntN(3) {
		out += pick(r, " ", "  ", "\t", "\n", "#\n", "# a; \"7x! (\n", "#\xff\x00\r# \n")
	}
	return out
}

// maker makes random trees that are printable.
type maker struct{ *rand.Rand }

// some returns a list of at least so many elements, which are mostly few.
func some[T any](r maker, least int, element func() T) []T {
	var out []T
	for range least + r.IntN(4)*r.IntN(2) {
		out = append(out, element())
	}
	return out
}

func (r maker) number() int {
	return pick(r.Rand, 0, 1, 5, 10, 73049, 1000000000, mostNumber, r.IntN(mostNumber+1))
}

// name returns a name, which may be a key word, but none of some others.
func (r maker) name(others ...string) string {
	for {
		name := pick(r.Rand, "a", "b", "T", "x9", "y_", "SELECT", longName, pick(r.Rand, keyWords...), pick(r.Rand, keyWords...))
		if !strings.Contains(" "+strings.Join(others, " ")+" ", " "+name+" ") {
			return name
		}
	}
}

func (r maker) names(least int) []string { return some(r, least, func() string { return r.name() }) }

func (r maker) value() api.Value {
	switch r.IntN(6) {
	case 0:
		return text(pick(r.Rand, "", "x", "null", "5", ";", "  ", "a \"b\" \\ \n # c", "\x00\t\xff", strings.Repeat("\n", 200)))
	case 1:
		return number(r.number())
	case 2:
		return number(-r.number())
	case 3:
		return day(r.number())
	case 4:
		return flag(r.IntN(2))
	}
	return null
}

func (r maker) side() api.Operand {
	switch r.IntN(3) {
	case 0:
		return constant(r.value())
	case 1:
		return attr(r.name("true", "false", "null"))
	}
	return of(r.name("true", "false", "null"), r.name())
}

func (r maker) cond() api.Cond {
	return api.Cond{Left: r.side(), Op: 1 + r.IntN(4), Right: r.side(), Add: pick(r.Rand, 0, r.number(), -r.number())}
}

func (r maker) term() api.Term {
	t := api.Term{Attr: r.name(), Measure: 1 + r.IntN(5), Least: api.Ratio{Num: r.number(), Den: pick(r.Rand, 1, r.number())}, Gives: r.number(), Takes: pick(r.Rand, 0, r.number())}
	if t.Measure == api.MeasureNear {
		t.Tolerance = r.number()
	}
	return t
}

// expr returns an expression of at most so many levels.
func (r maker) expr(levels int) api.Expr {
	x := api.Expr{Kind: 1 + r.IntN(8)}
	if levels == 1 || x.Kind == api.ExprTable {
		return relation(r.name())
	}
	x.Kids = []api.Expr{r.expr(levels - 1)}
	switch x.Kind {
	case api.ExprSelect:
		x.Conds = some(r, 1, r.cond)
	case api.ExprProject:
		x.Names = r.names(0)
	case api.ExprJoin, api.ExprUnion, api.ExprMinus:
		x.Kids = append(x.Kids, r.expr(1+r.IntN(levels-1)))
	case api.ExprRename:
		x.Attr, x.As = r.name(), r.name()
	case api.ExprGroup:
		x.Names, x.Agg, x.As = r.names(0), 1+r.IntN(4), r.name()
		if len(x.Names) > 0 {
			x.Names[0] = r.name("with")
		}
		if x.Agg != api.AggCount {
			x.Attr = r.name()
		}
	}
	return x
}

func (r maker) item() api.Item {
	x := api.Item{Kind: 1 + r.IntN(10), Name: r.name()}
	switch x.Kind {
	case api.ItemTable:
		x.Columns = some(r, 1, func() api.Column { return api.Column{Name: r.name(), Kind: 1 + r.IntN(4), Default: r.value()} })
		x.Names = r.names(1)
	case api.ItemOrigin:
		x.N = r.number()
	case api.ItemBlock:
		x.Table, x.Attr, x.By = r.name(), r.name(), 1+r.IntN(4)
		if x.By >= api.ByPrefix {
			x.N = r.number()
		}
		if x.By == api.BySketch {
			x.M = r.number()
		}
	case api.ItemMatch:
		x.Table, x.N, x.Terms = r.name(), r.number(), some(r, 0, r.term)
	case api.ItemKeep:
		x.Name, x.Table, x.Attr, x.By = "", r.name(), r.name(), 1+r.IntN(6)
	case api.ItemUnique:
		x.Table, x.Names = r.name(), r.names(1)
	case api.ItemDepend:
		x.Table, x.Names, x.Attr = r.name(), r.names(1), r.name()
		x.Fixed = some(r, 0, func() api.Named { return api.Named{Name: r.name(), Value: r.value()} })
	case api.ItemInclude:
		x.Table, x.Attr, x.Other, x.OtherAttr = r.name(), r.name(), r.name(), r.name()
	case api.ItemDeny:
		x.Vars = some(r, 1, func() api.Var { return api.Var{Name: r.name(), Table: r.name()} })
		x.Conds = some(r, 1, r.cond)
	case api.ItemQuery:
		x.Expr = r.expr(1 + r.IntN(6))
	}
	return x
}

// program returns a tree of so many items.
func (r maker) program(n int) api.Program {
	var out api.Program
	for range n {
		out.Items = append(out.Items, r.item())
	}
	return out
}
