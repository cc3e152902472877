package parser_test

import (
	"fmt"
	"math/rand/v2"
	"strings"

	"cleanse/api"
	"cleanse/value"
)

// random returns a source of numbers that are always the same ones in the same order.
func random() *rand.Rand { return rand.New(rand.NewPCG(8, 25)) }

// pick returns one of some texts.
func pick(r *rand.Rand, list ...string) string { return list[r.IntN(len(list))] }

// someGap returns a gap, which may be empty.
func someGap(r *rand.Rand) string {
	out := ""
	for range r.IntN(3) {
		out += pick(r, " ", " ", "\t", "\n", "#\n", "# a; \"7x! (\n", "#\xff\x00\r# \n")
	}
	return out
}

// writer writes trees as texts, in any of the ways in which they can be written, and notes in them where items and expressions begin. Words of items and numbers of tokens are written as they are.
type writer struct {
	r    *rand.Rand
	text string
	last string
}

// isPart reports whether a byte can stand within a name or a number.
func isPart(c byte) bool {
	return c == '_' || c >= '0' && c <= '9' || c >= 'a' && c <= 'z' || c >= 'A' && c <= 'Z'
}

// put writes tokens with gaps before them, and returns the offset of the first one.
func (w *writer) put(tokens ...string) int {
	first := -1
	for _, token := range tokens {
		gap := someGap(w.r)
		if gap == "" && w.last != "" && isPart(w.last[len(w.last)-1]) && isPart(token[0]) {
			gap = " "
		}
		w.text += gap
		if first < 0 {
			first = len(w.text)
		}
		w.text += token
		w.last = token
	}
	return first
}

// number writes a number that is not negative.
func (w *writer) number(n int) {
	digits := fmt.Sprint(n)
	if w.r.IntN(4) == 0 {
		digits = strings.Repeat("0", w.r.IntN(11-len(digits))) + digits
	}
	w.put(digits)
}

// signed writes a number with its sign; 0 may have any sign.
func (w *writer) signed(n int, plus ...string) {
	if n < 0 || n == 0 && w.r.IntN(2) == 0 {
		w.put("-")
		w.number(-n)
		return
	}
	w.put(plus...)
	w.number(n)
}

// value writes a value.
func (w *writer) value(v api.Value) {
	switch v.Kind {
	case api.KindNull:
		w.put("null")
	case api.KindText:
		w.put(value.Text(v))
	case api.KindNumber:
		w.signed(v.N)
	case api.KindDay:
		w.put("@")
		w.number(v.N)
	case api.KindFlag:
		w.put([]string{"false", "true"}[v.N])
	}
}

// writeList writes elements with a word between two of them.
func writeList[T any](w *writer, between string, list []T, write func(T)) {
	for i, element := range list {
		if i > 0 {
			w.put(between)
		}
		write(element)
	}
}

// names writes names with commas between them.
func (w *writer) names(list []string) {
	writeList(w, ",", list, func(name string) { w.put(name) })
}

// item writes an item.
func (w *writer) item(x *api.Item) {
	x.At = w.put([]string{"table", "source", "block", "match", "keep", "unique", "depend", "include", "deny", "query"}[x.Kind-1])
	if x.Kind != api.ItemKeep {
		w.put(x.Name)
	}
	switch x.Kind {
	case api.ItemTable:
		w.put("(")
		writeList(w, ",", x.Columns, w.column)
		w.put(")", "key")
		w.names(x.Names)
	case api.ItemOrigin:
		w.put("trust")
		w.number(x.N)
	case api.ItemBlock:
		w.block(*x)
	case api.ItemMatch:
		w.match(*x)
		return
	case api.ItemKeep:
		w.put(x.Table, ".", x.Attr, "by", []string{"latest", "most", "trusted", "longest", "least", "greatest"}[x.By-1])
	case api.ItemUnique, api.ItemDepend:
		w.key(*x)
	case api.ItemInclude:
		w.put(x.Table, ".", x.Attr, "in", x.Other, ".", x.OtherAttr)
	case api.ItemDeny:
		writeList(w, ",", x.Vars, func(v api.Var) { w.put(v.Table, v.Name) })
		w.conds(x.Conds)
	case api.ItemQuery:
		w.put("=")
		w.expr(&x.Expr)
	}
	w.put(";")
}

// block writes a block behind its name.
func (w *writer) block(x api.Item) {
	w.put("on", x.Table, ".", x.Attr, "by", []string{"exact", "token", "prefix", "sketch"}[x.By-1])
	if x.By >= api.ByPrefix {
		w.number(x.N)
	}
	if x.By == api.BySketch {
		w.number(x.M)
	}
}

// match writes a match behind its name.
func (w *writer) match(x api.Item) {
	w.put("on", x.Table, "at")
	w.number(x.N)
	w.put("{")
	for _, t := range x.Terms {
		w.term(t)
	}
	w.put("}")
}

// term writes a term. Neither a denominator 1 nor a number 0 behind "takes" must be written.
func (w *writer) term(t api.Term) {
	w.put(t.Attr, []string{"equal", "edit", "jaccard", "jaro", "near"}[t.Measure-1])
	if t.Measure == api.MeasureNear {
		w.number(t.Tolerance)
	}
	w.put("least")
	w.number(t.Least.Num)
	if t.Least.Den != 1 || w.r.IntN(3) == 0 {
		w.put("/")
		w.number(t.Least.Den)
	}
	w.put("gives")
	w.number(t.Gives)
	if t.Takes != 0 || w.r.IntN(3) == 0 {
		w.put("takes")
		w.number(t.Takes)
	}
	w.put(";")
}

// key writes a unique or a depend behind its name.
func (w *writer) key(x api.Item) {
	w.put("on", x.Table, "(")
	w.names(x.Names)
	w.put(")")
	if x.Kind == api.ItemUnique {
		return
	}
	w.put("to", x.Attr)
	if len(x.Fixed) > 0 {
		w.put("where")
	}
	writeList(w, ",", x.Fixed, func(n api.Named) {
		w.put(n.Name, "=")
		w.value(n.Value)
	})
}

// column writes a column. A default value that is null need not be written.
func (w *writer) column(c api.Column) {
	w.put(c.Name, []string{"text", "number", "day", "flag"}[c.Kind-1])
	if c.Default.Kind != api.KindNull || w.r.IntN(3) == 0 {
		w.put("=")
		w.value(c.Default)
	}
}

// conds writes conditions, with "where" before them.
func (w *writer) conds(list []api.Cond) {
	w.put("where")
	writeList(w, "and", list, w.cond)
}

// cond writes a condition. A number 0 at its end need not be written.
func (w *writer) cond(c api.Cond) {
	w.side(c.Left)
	w.put([]string{"=", "!=", "<", "<="}[c.Op-1])
	w.side(c.Right)
	if c.Add != 0 || w.r.IntN(3) == 0 {
		w.signed(c.Add, "+")
	}
}

// side writes a side of a condition.
func (w *writer) side(o api.Operand) {
	switch {
	case o.Const:
		w.value(o.Value)
	case o.Var != "":
		w.put(o.Var, ".", o.Attr)
	default:
		w.put(o.Attr)
	}
}

// expr writes an expression.
func (w *writer) expr(x *api.Expr) {
	if x.Kind == api.ExprTable {
		x.At = w.put(x.Table)
		return
	}
	x.At = w.put([]string{"select", "project", "join", "union", "minus", "rename", "group"}[x.Kind-2], "(")
	for i := range x.Kids {
		if i > 0 {
			w.put(",")
		}
		w.expr(&x.Kids[i])
	}
	switch x.Kind {
	case api.ExprSelect:
		w.conds(x.Conds)
	case api.ExprProject:
		w.put("on")
		w.names(x.Names)
	case api.ExprRename:
		w.put(",", x.Attr, "as", x.As)
	case api.ExprGroup:
		w.put("on")
		w.names(x.Names)
		w.put("with", []string{"count", "sum", "least", "greatest"}[x.Agg-1])
		if x.Agg != api.AggCount {
			w.put(x.Attr)
		}
		w.put("as", x.As)
	}
	w.put(")")
}

// write returns a text of a tree, in which it notes the offsets.
func write(r *rand.Rand, p api.Program) string {
	w := writer{r: r}
	for i := range p.Items {
		w.item(&p.Items[i])
	}
	return w.text + someGap(r)
}

// some returns a list of at least so many elements, which are mostly few.
func some[T any](r *rand.Rand, least int, element func(r *rand.Rand) T) []T {
	var out []T
	for range least + r.IntN(4)*r.IntN(2) {
		out = append(out, element(r))
	}
	return out
}

// someNumber returns a number that is not negative.
func someNumber(r *rand.Rand) int {
	return []int{0, 1, 5, 10, 73049, 1000000000, 9999999999, r.IntN(10000000000)}[r.IntN(8)]
}

// someName returns a name, which may be a key word.
func someName(r *rand.Rand) string {
	if r.IntN(2) == 0 {
		return pick(r, keyWords...)
	}
	return pick(r, "a", "b", "T", "x9", "y_", "Table", "SELECT", "selects", "nulls", "a_name_with_24_bytes____")
}

// someValue returns a value.
func someValue(r *rand.Rand) api.Value {
	switch r.IntN(6) {
	case 0:
		return text(pick(r, "", "x", "null", "5", ";", "a \"b\" \\ \n # c", "\x00\xff", strings.Repeat("\n", 200)))
	case 1:
		return number(someNumber(r))
	case 2:
		return number(-someNumber(r))
	case 3:
		return day(someNumber(r))
	case 4:
		return flag(r.IntN(2))
	}
	return null
}

// someSide returns a side of a condition.
func someSide(r *rand.Rand) api.Operand {
	if r.IntN(3) == 0 {
		return constant(someValue(r))
	}
	first := someName(r)
	for first == "true" || first == "false" || first == "null" {
		first = someName(r)
	}
	if r.IntN(2) == 0 {
		return attr(first)
	}
	return of(first, someName(r))
}

// someCond returns a condition.
func someCond(r *rand.Rand) api.Cond {
	c := api.Cond{Left: someSide(r), Op: 1 + r.IntN(4), Right: someSide(r)}
	if r.IntN(2) == 0 {
		c.Add = someNumber(r) * (1 - 2*r.IntN(2))
	}
	return c
}

// someTerm returns a term of a match.
func someTerm(r *rand.Rand) api.Term {
	t := api.Term{Attr: someName(r), Measure: 1 + r.IntN(5), Least: api.Ratio{Num: someNumber(r), Den: someNumber(r)}, Gives: someNumber(r)}
	if t.Measure == api.MeasureNear {
		t.Tolerance = someNumber(r)
	}
	if r.IntN(2) == 0 {
		t.Least.Den = 1
		t.Takes = someNumber(r)
	}
	return t
}

// someExpr returns an expression of at most so many levels.
func someExpr(r *rand.Rand, levels int) api.Expr {
	kind := 1 + r.IntN(8)
	if levels == 1 || kind == api.ExprTable {
		return table(someName(r))
	}
	x := api.Expr{Kind: kind, Kids: []api.Expr{someExpr(r, levels-1)}}
	switch kind {
	case api.ExprSelect:
		x.Conds = some(r, 1, someCond)
	case api.ExprProject:
		x.Names = some(r, 0, someName)
	case api.ExprJoin, api.ExprUnion, api.ExprMinus:
		x.Kids = append(x.Kids, someExpr(r, 1+r.IntN(levels-1)))
	case api.ExprRename:
		x.Attr, x.As = someName(r), someName(r)
	case api.ExprGroup:
		x.Names, x.Agg, x.As = some(r, 0, someName), 1+r.IntN(4), someName(r)
		if len(x.Names) > 0 && x.Names[0] == "with" {
			x.Names[0] = "on"
		}
		if x.Agg != api.AggCount {
			x.Attr = someName(r)
		}
	}
	return x
}

// someItem returns an item.
func someItem(r *rand.Rand) api.Item {
	x := api.Item{Kind: 1 + r.IntN(10), Name: someName(r), Table: someName(r)}
	switch x.Kind {
	case api.ItemTable:
		x.Table, x.Names = "", some(r, 1, someName)
		x.Columns = some(r, 1, func(r *rand.Rand) api.Column {
			return api.Column{Name: someName(r), Kind: 1 + r.IntN(4), Default: someValue(r)}
		})
	case api.ItemOrigin:
		x.Table, x.N = "", someNumber(r)
	case api.ItemBlock:
		x.Attr, x.By = someName(r), 1+r.IntN(4)
		if x.By >= api.ByPrefix {
			x.N = someNumber(r)
		}
		if x.By == api.BySketch {
			x.M = someNumber(r)
		}
	case api.ItemMatch:
		x.N, x.Terms = someNumber(r), some(r, 0, someTerm)
	case api.ItemKeep:
		x.Name, x.Attr, x.By = "", someName(r), 1+r.IntN(6)
	case api.ItemUnique, api.ItemDepend:
		x.Names = some(r, 1, someName)
		if x.Kind == api.ItemDepend {
			x.Attr = someName(r)
			x.Fixed = some(r, 0, func(r *rand.Rand) api.Named { return api.Named{Name: someName(r), Value: someValue(r)} })
		}
	case api.ItemInclude:
		x.Attr, x.Other, x.OtherAttr = someName(r), someName(r), someName(r)
	case api.ItemDeny:
		x.Table, x.Conds = "", some(r, 1, someCond)
		x.Vars = some(r, 1, func(r *rand.Rand) api.Var { return api.Var{Name: someName(r), Table: someName(r)} })
	case api.ItemQuery:
		x.Table, x.Expr = "", someExpr(r, 1+r.IntN(6))
	}
	return x
}

// someProgram returns a tree with so many items, without offsets.
func someProgram(r *rand.Rand, items int) api.Program {
	var out api.Program
	for range items {
		out.Items = append(out.Items, someItem(r))
	}
	return out
}
