package calls

import (
	"strings"
	"testing"

	"entail/api"
	"entail/parse"
	"entail/tree"
	"entail/value"
)

// programOf returns the tree of a program.
func programOf(t *testing.T, text string) api.Tree {
	t.Helper()
	p, at, e := parse.Program(text)
	if e != api.OK {
		t.Fatalf("the program %.200q: %d at %d", text, e, at)
	}
	return p
}

// valueOf returns the value of a string.
func valueOf(t *testing.T, text string) api.Value {
	t.Helper()
	v, at, e := value.ParseText(text)
	if e != api.OK {
		t.Fatalf("the value %q: %d at %d", text, e, at)
	}
	return v
}

// valuesOf returns the values of strings.
func valuesOf(t *testing.T, texts ...string) []api.Value {
	t.Helper()
	var out []api.Value
	for _, s := range texts {
		out = append(out, valueOf(t, s))
	}
	return out
}

// show returns the texts of expressions.
func show(l []api.Tree) string {
	var out []string
	for _, x := range l {
		s, e := tree.Print(x)
		if e != api.OK {
			s = "no tree"
		}
		out = append(out, s)
	}
	return strings.Join(out, "; ")
}

// badPrograms are trees that are no flat programs, with their errors.
func badPrograms(t *testing.T) map[string]struct {
	tree api.Tree
	want api.Errno
} {
	t.Helper()
	type bad = struct {
		tree api.Tree
		want api.Errno
	}
	return map[string]bad{
		"nothing":       {nil, api.ErrEmpty},
		"too many":      {make(api.Tree, api.MaxNodes+1), api.ErrMany},
		"no tree":       {api.Tree{{Op: api.EVar, Text: "X"}}, api.ErrName},
		"an expression": {api.Tree{{Op: api.EVar, Text: "x"}}, api.ErrKind},
		"a module":      {api.Tree{{Op: api.MModule}}, api.ErrKind},
		"a name":        {programOf(t, "module A { function f(): int { 1 } }"), api.ErrKind},
		"two modules":   {programOf(t, "module A { } module B { }"), api.ErrKind},
	}
}
