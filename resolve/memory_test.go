package resolve_test

import (
	"fmt"
	"reflect"
	"slices"
	"strings"
	"testing"

	"cleanse/api"
	"cleanse/resolve"
)

// span is a part of the memory.
type span struct {
	from, to uintptr
	isText   bool
}

// spans returns the parts of the memory that the slices and texts in a value have, with what lies behind slices.
func spans(v reflect.Value) []span {
	var out []span
	switch v.Kind() {
	case reflect.Struct:
		for i := range v.NumField() {
			out = append(out, spans(v.Field(i))...)
		}
	case reflect.Slice:
		if v.Cap() > 0 {
			out = append(out, span{v.Pointer(), v.Pointer() + uintptr(v.Cap())*v.Type().Elem().Size(), false})
		}
		for i := range v.Len() {
			out = append(out, spans(v.Index(i))...)
		}
	case reflect.String:
		if v.Len() > 0 {
			from := reflect.ValueOf(v.String()).Pointer()
			out = append(out, span{from, from + uintptr(v.Len()), true})
		}
	}
	return out
}

// spansOf returns the parts of the memory that a value has.
func spansOf(x any) []span { return spans(reflect.ValueOf(x)) }

// overlap reports whether two parts of the memory have a byte in common.
func overlap(a, b span) bool { return max(a.from, b.from) < min(a.to, b.to) }

// checkApart checks that no part of a result is one of others.
func checkApart(t *testing.T, about, result any, others ...any) {
	t.Helper()
	list := spansOf(result)
	for _, other := range others {
		for _, b := range spansOf(other) {
			if slices.ContainsFunc(list, func(a span) bool { return overlap(a, b) }) {
				t.Fatalf("%s: the result shares memory", show(about))
			}
		}
	}
}

// checkAlone checks that no two slices of a result share memory.
func checkAlone(t *testing.T, about, result any) {
	t.Helper()
	list := slices.DeleteFunc(spansOf(result), func(a span) bool { return a.isText })
	slices.SortFunc(list, func(a, b span) int { return int(a.from) - int(b.from) })
	for i := 1; i < len(list); i++ {
		if overlap(list[i-1], list[i]) {
			t.Fatalf("%s: two slices of the result share memory", show(about))
		}
	}
}

// fresh returns a copy of a value that shares neither slices nor texts with it. Each slice has an element behind its last one.
func fresh[T any](x T) T {
	out := x
	refresh(reflect.ValueOf(&out).Elem())
	return out
}

func refresh(v reflect.Value) {
	switch v.Kind() {
	case reflect.Struct:
		for i := range v.NumField() {
			refresh(v.Field(i))
		}
	case reflect.Slice:
		n := v.Len()
		out := reflect.MakeSlice(v.Type(), n+1, n+1)
		reflect.Copy(out, v)
		v.Set(out.Slice(0, n))
		for i := range n {
			refresh(v.Index(i))
		}
	case reflect.String:
		v.SetString(strings.Clone(v.String()))
	}
}

// behind returns a text of what lies behind the slices of a value.
func behind(v reflect.Value) string {
	out := ""
	switch v.Kind() {
	case reflect.Struct:
		for i := range v.NumField() {
			out += behind(v.Field(i))
		}
	case reflect.Slice:
		for i := range v.Len() {
			out += behind(v.Index(i))
		}
		out += fmt.Sprintf("%#v", v.Slice(v.Len(), v.Cap()))
	}
	return out
}

// clearAll makes everything in a value zero.
func clearAll(v reflect.Value) {
	for _, at := range places(v) {
		if at.Kind() == reflect.Slice {
			for i := range at.Len() {
				clearAll(at.Index(i))
			}
			continue
		}
		at.SetZero()
	}
}

// LANGUAGE.md, rule 7: a tree is neither changed nor kept, and a setup is new memory.
func TestMemoryOfTrees(t *testing.T) {
	r := maker{Rand: random()}
	for i := range 800 {
		p := r.program(r.IntN(12))
		if i%2 == 0 {
			p = r.good()
		}
		given := fresh(p)
		before, around := fmt.Sprintf("%#v", given), behind(reflect.ValueOf(given))
		first, faults := resolve.Resolve(given)
		second, others := resolve.Resolve(given)
		if fmt.Sprintf("%#v", given) != before || behind(reflect.ValueOf(given)) != around {
			t.Fatalf("%s was changed", show(p))
		}
		checkAlone(t, p, first)
		checkApart(t, p, first, given, second)
		checkApart(t, p, faults, given, others)
		want := copied(first)
		clearAll(reflect.ValueOf(&given).Elem())
		clearAll(reflect.ValueOf(&second).Elem())
		check(t, p, first, faults, want, others)
	}
}

// LANGUAGE.md, rule 7: changes are neither changed nor kept, and setups of texts are new memory.
func TestMemoryOfChanges(t *testing.T) {
	eachChanged(func(text string, changes []api.Change, want api.Setup, wanted []api.Fault) {
		given := fresh(changes)
		before, around := fmt.Sprintf("%#v", given), behind(reflect.ValueOf(given))
		first, faults := resolve.With(text, given)
		second, others := resolve.With(text, given)
		third, _ := resolve.Compile(text)
		if fmt.Sprintf("%#v", given) != before || behind(reflect.ValueOf(given)) != around {
			t.Fatalf("%v was changed", changes)
		}
		checkAlone(t, text, first)
		checkAlone(t, text, third)
		checkApart(t, text, first, given, text, second, third, want)
		checkApart(t, text, third, text)
		checkApart(t, text, faults, others, wanted)
		clearAll(reflect.ValueOf(&given).Elem())
		clearAll(reflect.ValueOf(&second).Elem())
		clearAll(reflect.ValueOf(&third).Elem())
		check(t, text, first, faults, want, wanted)
	})
}
