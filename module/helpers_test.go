package module

import (
	"slices"
	"testing"

	"entail/api"
	"entail/parse"
	"entail/tree"
)

// programOf returns the tree of a program.
func programOf(t *testing.T, text string) api.Tree {
	t.Helper()
	p, at, e := parse.Program(text)
	if e != api.OK {
		t.Fatalf("the program %.200q: %d at %d", text, e, at)
	}
	return p
}

// place says which node of a program is meant: the one with a number among those with an Op and a Text.
type place struct {
	op    int
	text  string
	among int
}

// in returns the index of a node.
func (x place) in(t *testing.T, p api.Tree) int {
	t.Helper()
	count := x.among
	for i, n := range p {
		if n.Op == x.op && n.Text == x.text {
			if count == 0 {
				return i
			}
			count--
		}
	}
	t.Fatalf("there is no node %v", x)
	return 0
}

// moduleTree returns a module with some children.
func moduleTree(t *testing.T, name string, kids ...api.Tree) api.Tree {
	t.Helper()
	m, e := tree.Make(api.MModule, name, kids)
	if e != api.OK {
		t.Fatalf("Make: %d", e)
	}
	return m
}

// programTree returns a program of some modules.
func programTree(t *testing.T, modules ...api.Tree) api.Tree {
	t.Helper()
	p, e := tree.Make(api.MProgram, "", modules)
	if e != api.OK {
		t.Fatalf("Make: %d", e)
	}
	return p
}

// text returns the text of a program.
func text(t *testing.T, p api.Tree) string {
	t.Helper()
	s, e := tree.Print(p)
	if e != api.OK {
		t.Fatalf("Print: %d", e)
	}
	return s
}

// example is the program of the document's examples.
const example = `
module A { import B; function f(x: int): int { B::g(x) } const c: int := 1; }
module B { export g, +D; function g(x: int): int { x } datatype D = Nil | One(v: int) function h(x: int): int { x } }`

// errnos returns the errors of all functions that take a program and a module.
func errnos(p api.Tree, module, name string) []api.Errno {
	exports, e0 := Exports(p, module)
	visible, e1 := Visible(p, module)
	entry, e2 := Resolve(p, module, name)
	closure, e3 := Closure(p, module)
	clients, e4 := Clients(p, module)
	out := []api.Errno{e0, e1, e2, e3, e4}
	for i, is := range []bool{len(exports) > 0, len(visible) > 0, entry != Entry{}, len(closure) > 0, len(clients) > 0} {
		if is && out[i] != api.OK {
			out[i] = -1 // a result beside an error
		}
	}
	return out
}

// equal reports whether two lists are equal.
func equal[A comparable](a, b []A) bool {
	return slices.Equal(a, b)
}
