package parser_test

import (
	"regexp"
	"slices"
	"strings"

	"cleanse/api"
	"cleanse/lexer"
)

// grammar is that of the chapter from its items on. A SIDE is a NAME that is no value, a FIRST one that is not the key word of a group.
const grammar = `
item:    "table" NAME "(" column { "," column } ")" "key" NAME { "," NAME } ";"
       | "source" NAME "trust" INT ";"
       | "block" NAME "on" NAME "." NAME "by" ( "exact" | "token" | "prefix" INT | "sketch" INT INT ) ";"
       | "match" NAME "on" NAME "at" INT "{" { NAME measure "least" ratio "gives" INT [ "takes" INT ] ";" } "}"
       | "keep" NAME "." NAME "by" ( "latest" | "most" | "trusted" | "longest" | "least" | "greatest" ) ";"
       | "unique" NAME "on" NAME "(" NAME { "," NAME } ")" ";"
       | "depend" NAME "on" NAME "(" NAME { "," NAME } ")" "to" NAME
             [ "where" NAME "=" value { "," NAME "=" value } ] ";"
       | "include" NAME NAME "." NAME "in" NAME "." NAME ";"
       | "deny" NAME NAME NAME { "," NAME NAME } "where" cond { "and" cond } ";"
       | "query" NAME "=" expr ";"
column:  NAME ( "text" | "number" | "day" | "flag" ) [ "=" value ]
measure: "equal" | "edit" | "jaccard" | "jaro" | "near" INT
ratio:   INT [ "/" INT ]
value:   TEXT | [ "-" ] INT | "@" INT | "true" | "false" | "null"
cond:    side ( "=" | "!=" | "<" | "<=" ) side [ ( "+" | "-" ) INT ]
side:    value | SIDE [ "." NAME ]
expr:    NAME
       | "select" "(" expr "where" cond { "and" cond } ")"
       | "project" "(" expr "on" [ NAME { "," NAME } ] ")"
       | ( "join" | "union" | "minus" ) "(" expr "," expr ")"
       | "rename" "(" expr "," NAME "as" NAME ")"
       | "group" "(" expr "on" [ FIRST { "," NAME } ]
             "with" ( "count" | ( "sum" | "least" | "greatest" ) NAME ) "as" NAME ")"
`

// keyWords are the key words of the grammar.
var keyWords = findKeyWords()

func findKeyWords() []string {
	var out []string
	for _, quoted := range regexp.MustCompile(`"[a-z]+"`).FindAllString(grammar, -1) {
		out = append(out, strings.Trim(quoted, `"`))
	}
	slices.Sort(out)
	return slices.Compact(out)
}

// part is a part of the grammar: a sequence, alternatives, something optional, something repeated, the name of a rule, or else a token.
type part struct {
	kind string
	text string
	kids []part
}

var marks = regexp.MustCompile(`"[^"]+"|\w+:?|[][{}()|]`)

// rules returns the rules of the grammar by their names.
func rules() map[string]part {
	out := map[string]part{}
	list := marks.FindAllString(grammar, -1)
	for len(list) > 0 {
		name := strings.TrimSuffix(list[0], ":")
		out[name], list = alternatives(list[1:])
	}
	return out
}

// alternatives returns the alternatives at the beginning of a list of marks, and what comes after them.
func alternatives(list []string) (part, []string) {
	out := part{kind: "alternatives"}
	for {
		var kid part
		kid, list = sequence(list)
		out.kids = append(out.kids, kid)
		if len(list) == 0 || list[0] != "|" {
			return out, list
		}
		list = list[1:]
	}
}

// sequence returns the sequence at the beginning of a list of marks, and what comes after it.
func sequence(list []string) (part, []string) {
	out := part{kind: "sequence"}
	for len(list) > 0 && !strings.HasSuffix(list[0], ":") && !strings.Contains("|)]}", list[0]) {
		mark := list[0]
		list = list[1:]
		switch mark {
		case "(", "[", "{":
			var kid part
			kid, list = alternatives(list)
			list = list[1:]
			kind := map[string]string{"(": "sequence", "[": "optional", "{": "repeated"}[mark]
			out.kids = append(out.kids, part{kind: kind, kids: []part{kid}})
		default:
			kind := "token"
			if mark == strings.ToLower(mark) && mark[0] != '"' {
				kind = "rule"
			}
			out.kids = append(out.kids, part{kind: kind, text: strings.Trim(mark, `"`)})
		}
	}
	return out, list
}

// hope is what may come next, by one reading of what came before: a part within an expression of a level, and then another hope.
type hope struct {
	part
	level int
	next  *hope
}

// model reads texts by the grammar alone: it follows all readings at the same time. Those of an item that is still to come are found once.
type model struct {
	rules map[string]part
	items []*hope
}

func newModel() model {
	m := model{rules: rules()}
	m.items = m.open(&hope{part: part{kind: "rule", text: "item"}})
	return m
}

// open returns the readings of a hope that begin with a token, or with an expression of a level that is too high; nil is the one that ends here.
func (m model) open(h *hope) []*hope {
	if h == nil {
		return []*hope{nil}
	}
	switch h.kind {
	case "sequence":
		next := h.next
		for _, kid := range slices.Backward(h.kids) {
			next = &hope{kid, h.level, next}
		}
		return m.open(next)
	case "alternatives":
		var out []*hope
		for _, kid := range h.kids {
			out = append(out, m.open(&hope{kid, h.level, h.next})...)
		}
		return out
	case "optional":
		return append(m.open(h.next), m.open(&hope{h.kids[0], h.level, h.next})...)
	case "repeated":
		return append(m.open(h.next), m.open(&hope{h.kids[0], h.level, h})...)
	case "rule":
		level := h.level
		if h.text == "expr" {
			level++
		}
		if level <= 12 {
			return m.open(&hope{m.rules[h.text], level, h.next})
		}
	}
	return []*hope{h}
}

// takes reports whether a token is the one that a part of the grammar stands for.
func takes(p part, token api.Token) bool {
	switch p.text {
	case "NAME":
		return token.Kind == api.TokName
	case "INT":
		return token.Kind == api.TokNumber
	case "TEXT":
		return token.Kind == api.TokText
	case "SIDE":
		return token.Kind == api.TokName && token.Text != "true" && token.Text != "false" && token.Text != "null"
	case "FIRST":
		return token.Kind == api.TokName && token.Text != "with"
	}
	return (token.Kind == api.TokName || token.Kind == api.TokSymbol) && token.Text == p.text
}

// report is what a model finds out about a text: where its items begin, as what each token can be read (an operation also as a NAME), and the error with its offset.
type report struct {
	items []int
	parts []string
	err   api.Errno
	at    int
}

// read reads a text. An item ends where a reading of it ends: the grammar lets no item go on there.
func (m model) read(source string) report {
	tokens, err, at := lexer.Lex(source)
	if err != api.OK {
		return report{err: err, at: at}
	}
	out := report{}
	readings := []*hope{nil}
	for _, token := range tokens {
		if readings[0] == nil {
			if len(out.items) == 200 {
				return report{err: api.ErrLimit, at: token.At}
			}
			out.items = append(out.items, token.At)
			readings = m.items
		}
		var after []*hope
		var parts []string
		for _, h := range readings {
			if h.kind == "rule" {
				return report{err: api.ErrLimit, at: token.At}
			}
			if takes(h.part, token) {
				parts = append(parts, h.text)
				after = append(after, m.open(h.next)...)
			}
		}
		out.parts = append(out.parts, strings.Join(parts, " "))
		if len(after) == 0 {
			return report{err: api.ErrSyntax, at: token.At}
		}
		if slices.Contains(after, nil) && len(after) > 1 {
			panic("an item ends, and goes on: " + source)
		}
		readings = after
	}
	if readings[0] != nil {
		return report{err: api.ErrEnd, at: len(source)}
	}
	return out
}
