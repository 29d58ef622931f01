package pattern

import (
	"math/rand"
	"slices"
	"strconv"
	"strings"
	"testing"

	"entail/api"
	"entail/parse"
	"entail/tree"
	"entail/value"
)

// samples are declarations of all kinds of types.
const samples = `
datatype D = Nil | Cons(head: int, tail: D)
datatype List<T> = None | Some(item: T, rest: List<T>)
datatype Pair<A, B> = Two(fst: A, snd: B)
datatype Color = Red | Green | Blue
datatype Loop = More(rest: Loop)
datatype Bits = Both(a: bv1, b: bv2) | Wide(c: bv5)
datatype Mixed = Of(n: Nat, l: List<Nat>, c: Cell, s: seq<int>, r: real) | Flag(b: bool)
datatype Grow<T> = Leaf(a: T) | Node(b: Grow<map<T, T>>)
datatype Odd = Bad(x: Round) | Good(x: List) | Fine
type Nat = x: int | 0 <= x witness 0
type Byte = b: bv8 | true witness (0 as bv8)
type Row = l: List<Nat> | true witness None
type Round = s: seq<Round> | true witness []
class Cell { var v: int; }
`

// programOf returns the tree of a program.
func programOf(t *testing.T, text string) api.Tree {
	t.Helper()
	p, at, e := parse.Program(text)
	if e != api.OK {
		t.Fatalf("the program %.200q: %d at %d", text, e, at)
	}
	return p
}

// of returns the tree of a pattern.
func of(t *testing.T, text string) api.Tree {
	t.Helper()
	p, at, e := parse.Pattern(text)
	if e != api.OK {
		t.Fatalf("the pattern %q: %d at %d", text, e, at)
	}
	return p
}

// listOf returns the trees of patterns, which are separated by spaces if they have none in them.
func listOf(t *testing.T, texts ...string) []api.Tree {
	t.Helper()
	var out []api.Tree
	for _, s := range texts {
		out = append(out, of(t, s))
	}
	return out
}

// valueOf returns the value of a string.
func valueOf(t *testing.T, text string) api.Value {
	t.Helper()
	v, at, e := value.ParseText(text)
	if e != api.OK {
		t.Fatalf("the value %q: %d at %d", text, e, at)
	}
	return v
}

// textOf returns the string of a value.
func textOf(v api.Value) string {
	s, _ := value.Text(v)
	return s
}

// show returns the text of a pattern.
func show(p api.Tree) string {
	s, _ := tree.Print(p)
	return s
}

// showAll returns the texts of patterns.
func showAll(l []api.Tree) string {
	var out []string
	for _, p := range l {
		out = append(out, show(p))
	}
	return strings.Join(out, " | ")
}

// badTrees are trees that are no patterns, with the node and the error.
func badTrees() map[string]struct {
	tree api.Tree
	node int
	want api.Errno
} {
	type bad = struct {
		tree api.Tree
		node int
		want api.Errno
	}
	deep := api.Tree{{Op: api.PWild}}
	for range api.MaxDepth {
		deep = append(deep, api.Node{Op: api.PCons, Text: "C", Kids: []int{len(deep) - 1}})
	}
	return map[string]bad{
		"nothing":       {nil, 0, api.ErrEmpty},
		"too many":      {make(api.Tree, api.MaxNodes+1), 0, api.ErrMany},
		"no Op":         {api.Tree{{Op: api.PWild}, {Op: -1}}, 1, api.ErrKind},
		"a name":        {api.Tree{{Op: api.PVar, Text: "X"}}, 0, api.ErrName},
		"no literal":    {api.Tree{{Op: api.EReal, Text: "1.0"}, {Op: api.PLit, Kids: []int{0}}}, 1, api.ErrForm},
		"a negative":    {api.Tree{{Op: api.EBool, Text: "true"}, {Op: api.ENeg, Kids: []int{0}}, {Op: api.PLit, Kids: []int{1}}}, 2, api.ErrForm},
		"an expression": {api.Tree{{Op: api.EInt, Text: "1"}}, 0, api.ErrKind},
		"a case":        {api.Tree{{Op: api.PWild}, {Op: api.EInt, Text: "1"}, {Op: api.ECase, Kids: []int{0, 1}}}, 2, api.ErrKind},
		"too deep":      {deep, api.MaxDepth, api.ErrDeep},
	}
}

// maker makes random patterns and values.
type maker struct {
	*rand.Rand
	*world
	names int
}

// newMaker returns a maker for the samples.
func newMaker(t *testing.T, seed int64) *maker {
	t.Helper()
	return &maker{rand.New(rand.NewSource(seed)), &world{programOf(t, samples), map[string]*kind{}}, 0}
}

// pick returns one of some strings.
func (m *maker) pick(list ...string) string {
	return list[m.Intn(len(list))]
}

// pattern returns the text of a random pattern for a type.
func (m *maker) pattern(typ string, depth int) string {
	k := m.of(typ)
	switch {
	case depth == 0 || m.Intn(3) == 0:
		m.names++
		return m.pick("_", "_", "x"+strconv.Itoa(m.names))
	case typ == "bool":
		return m.pick("true", "false")
	case typ == "int":
		return m.pick("0", "1", "2", "-1", "5")
	case k.width > 0:
		return strconv.Itoa(m.Intn(1 << min(k.width, 3)))
	case len(k.constructors) > 0:
		c := k.constructors[m.Intn(len(k.constructors))]
		if len(c.Fields) == 0 {
			return c.Name
		}
		var parts []string
		for _, field := range c.Fields {
			parts = append(parts, m.pattern(field, depth-1))
		}
		return c.Name + "(" + strings.Join(parts, ", ") + ")"
	}
	return "_"
}

// patterns returns random patterns for a type.
func (m *maker) patterns(t *testing.T, typ string, number, depth int) []api.Tree {
	t.Helper()
	var out []api.Tree
	for range number {
		out = append(out, of(t, m.pattern(typ, depth)))
	}
	return out
}

// values returns values of a type: all of those up to a depth, as far as patterns of the maker can tell them apart (of a part at the greatest depth one).
func (m *maker) values(typ string, depth int) []api.Value {
	number := func(kind int, text string, list ...string) []api.Value {
		var out []api.Value
		for _, s := range list {
			out = append(out, api.Value{Kind: kind, Num: s, Text: text})
		}
		return out
	}
	k := m.of(typ)
	switch {
	case typ == "bool":
		return number(api.VBool, "", "0", "1")
	case typ == "int":
		return number(api.VInt, "", "0", "1", "2", "3", "5", "-1")
	case k.width > 0:
		var list []string
		for n := range 1 << min(k.width, 4) {
			list = append(list, strconv.Itoa(n))
		}
		return number(api.VBits, strconv.Itoa(k.width), list...)
	case len(k.constructors) == 0:
		return number(api.VRef, "", "0")
	}
	var out []api.Value
	for _, c := range k.constructors {
		if depth == 0 && len(c.Fields) > 0 {
			continue
		}
		args := [][]api.Value{nil}
		for _, field := range c.Fields {
			var longer [][]api.Value
			for _, before := range args {
				for _, v := range m.values(field, depth-1) {
					longer = append(longer, append(slices.Clone(before), v))
				}
			}
			args = longer
		}
		for _, items := range args {
			out = append(out, api.Value{Kind: api.VCons, Text: c.Name, Items: items})
		}
	}
	return out
}
