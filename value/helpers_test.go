package value

import (
	"math/rand"
	"slices"
	"strings"
	"testing"

	"entail/api"
	"entail/parse"
)

// of returns the value of a string, which need not be well-formed.
func of(s string) api.Value {
	r := reader{text: s}
	v, read := r.value(1)
	if !read || r.at < len(s) {
		panic("no value: " + s)
	}
	return v
}

// all returns the values of strings.
func all(list ...string) []api.Value {
	var out []api.Value
	for _, s := range list {
		out = append(out, of(s))
	}
	return out
}

// show returns the strings of values.
func show(l []api.Value) string {
	var out []string
	for _, v := range l {
		out = append(out, text(v))
	}
	return strings.Join(out, " ")
}

// isNothing reports whether a value is the zero value.
func isNothing(v api.Value) bool {
	return v.Kind == 0 && v.Num == "" && v.Text == "" && len(v.Items) == 0
}

// same compares values field by field.
func same(a, b api.Value) bool {
	return a.Kind == b.Kind && a.Num == b.Num && a.Text == b.Text && slices.EqualFunc(a.Items, b.Items, same)
}

// maker makes random values.
type maker struct {
	*rand.Rand
}

func (m maker) pick(list ...string) string {
	return list[m.Intn(len(list))]
}

// value returns a random value that is well-formed.
func (m maker) value(depth int) api.Value {
	if depth == 0 || m.Intn(3) == 0 {
		return of(m.pick("true", "false", "0", "1", "-1", "12", "-12", "2", "10", "1/2", "-1/2", "1/1", "0/1", "3/4", "5bv8", "12bv8", "0bv3", "3bv64", "#0", "#2", "#10", "A()", "M::B()"))
	}
	var items []api.Value
	for range m.Intn(4) {
		items = append(items, m.value(depth-1))
	}
	kind := m.pick("seq", "set", "multi", "map", "cons")
	switch kind {
	case "seq":
		return api.Value{Kind: api.VSeq, Items: items}
	case "cons":
		return api.Value{Kind: api.VCons, Text: m.pick("A", "B", "M::A"), Items: items}
	case "map":
		items = append(items, items...)
	}
	return collect(map[string]int{"set": api.VSet, "multi": api.VMulti, "map": api.VMap}[kind], items)
}

// values returns random values.
func (m maker) values(n, depth int) []api.Value {
	var out []api.Value
	for range n {
		out = append(out, m.value(depth))
	}
	return out
}

// nested returns a value in sequences.
func nested(n int, v api.Value) api.Value {
	for range n {
		v = api.Value{Kind: api.VSeq, Items: []api.Value{v}}
	}
	return v
}

// row returns a sequence of different numbers.
func row(n int) api.Value {
	out := api.Value{Kind: api.VSeq}
	for i := range n {
		out.Items = append(out.Items, ofInt(i))
	}
	return out
}

// large returns a value with just so many values in it.
func large(size int) api.Value {
	out := api.Value{Kind: api.VSeq}
	for left := size - 1; left > 0; {
		part := min(left, 101)
		out.Items = append(out.Items, row(part-1))
		left -= part
	}
	return out
}

func programOf(t *testing.T, text string) api.Tree {
	t.Helper()
	p, at, e := parse.Program(text)
	if e != api.OK {
		t.Fatalf("the program %.200q: %d at %d", text, e, at)
	}
	return p
}
