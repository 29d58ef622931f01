package infer

import (
	"math/rand"
	"slices"
	"strconv"
	"strings"
	"testing"

	"entail/api"
	"entail/parse"
	"entail/tree"
	"entail/types"
)

// writer writes random expressions of given types.
type writer struct {
	*rand.Rand
	fresh int
}

// scope is variables with their types.
type scope []api.Bound

// start are variables of all types that are used.
func start() scope {
	return scope{{Name: "x", Sort: "int"}, {Name: "b", Sort: "bool"}, {Name: "s", Sort: "seq<int>"}, {Name: "l", Sort: "List<int>"}, {Name: "p", Sort: "Pair<bool,seq<int>>"}, {Name: "m", Sort: "map<int,bool>"}, {Name: "z", Sort: "set<int>"}}
}

// variable returns a variable of a type.
func (w *writer) variable(in scope, typ string) string {
	var names []string
	for _, b := range in {
		if b.Sort == typ {
			names = append(names, b.Name)
		}
	}
	return names[w.Intn(len(names))]
}

// bind returns a new variable and the scope with it.
func (w *writer) bind(in scope, typ string) (string, scope) {
	w.fresh++
	name := "n" + strconv.Itoa(w.fresh)
	return name, append(slices.Clone(in), api.Bound{Name: name, Sort: typ})
}

// any returns one of the types.
func (w *writer) any() string {
	all := start()
	return all[w.Intn(len(all))].Sort
}

// of returns an expression of a type, in parentheses.
func (w *writer) of(in scope, typ string, depth int) string {
	if depth <= 0 || w.Intn(6) == 0 {
		return w.variable(in, typ)
	}
	sub := func(t string) string { return w.of(in, t, depth-1) }
	switch w.Intn(7) {
	case 0:
		return "(if " + sub("bool") + " then " + sub(typ) + " else " + sub(typ) + ")"
	case 1:
		t := w.any()
		name, inner := w.bind(in, t)
		return "(var " + name + " := " + sub(t) + "; " + w.of(inner, typ, depth-1) + ")"
	case 2:
		head, inner := w.bind(in, "int")
		tail, inner := w.bind(inner, "List<int>")
		return "(match " + sub("List<int>") + " { case Cons(" + head + ", " + tail + ") => " + w.of(inner, typ, depth-1) + " case _ => " + sub(typ) + " })"
	case 3:
		return "Two(" + sub(typ) + ", " + sub(w.any()) + ").fst"
	case 4:
		return "same(" + sub(typ) + ", " + sub(typ) + ")"
	}
	return w.own(in, typ, sub)
}

// own returns an expression that is particular to a type.
func (w *writer) own(in scope, typ string, sub func(string) string) string {
	name, inner := w.bind(in, "int")
	choices := map[string][]func() string{
		"int":                 {func() string { return "(" + sub("int") + " + 1)" }, func() string { return "#" + sub("seq<int>") }, func() string { return sub("seq<int>") + "[" + sub("int") + "]" }, func() string { return "len(" + sub("List<int>") + ")" }, func() string { return sub("List<int>") + ".head" }},
		"bool":                {func() string { return "(" + sub("int") + " < " + sub("int") + ")" }, func() string { t := w.any(); return "(" + sub(t) + " == " + sub(t) + ")" }, func() string { return sub("map<int,bool>") + "[" + sub("int") + "]" }, func() string { return sub("List<int>") + ".Nil?" }, func() string { return "(" + sub("int") + " in " + sub("set<int>") + ")" }, func() string { return "(forall " + name + ": Nat :: " + w.of(inner, "bool", 1) + ")" }, func() string { return "!" + sub("bool") }, func() string { return sub("Pair<bool,seq<int>>") + ".fst" }},
		"seq<int>":            {func() string { return "[" + sub("int") + ", " + sub("int") + "]" }, func() string { return "([] + " + sub("seq<int>") + ")" }, func() string { return sub("seq<int>") + "[0 := " + sub("int") + "]" }, func() string { return sub("Pair<bool,seq<int>>") + ".snd" }},
		"List<int>":           {func() string { return "Cons(" + sub("int") + ", Nil)" }, func() string { return sub("List<int>") + ".tail" }, func() string { return "(if " + sub("bool") + " then Nil else " + sub("List<int>") + ")" }},
		"Pair<bool,seq<int>>": {func() string { return "Two(" + sub("bool") + ", " + sub("seq<int>") + ")" }, func() string { return "choose(" + sub("seq<int>") + ", " + sub("bool") + ", 1)" }},
		"map<int,bool>":       {func() string { return "map[" + sub("int") + " := " + sub("bool") + "]" }, func() string { return "(map[] + " + sub("map<int,bool>") + ")" }},
		"set<int>": {func() string { return "{" + sub("int") + "}" }, func() string {
			return "(set " + name + ": int | " + w.of(inner, "bool", 1) + " :: " + w.of(inner, "int", 1) + ")"
		}, func() string { return "({} - " + sub("set<int>") + ")" }},
	}[typ]
	return choices[w.Intn(len(choices))]()
}

// TestConsequences is for P8.4: random expressions of known types.
func TestConsequences(t *testing.T) {
	const more = "function same<A>(x: A, y: A): A\n"
	p := programOf(t, samples+more)
	w := &writer{rand.New(rand.NewSource(7)), 0}
	for range 150 {
		w.fresh = 0
		typ := w.any()
		text := w.of(start(), typ, 4)
		e, _, bad := parse.Expression(text)
		if bad == api.ErrDeep || len(e) > 600 {
			continue
		}
		got, _, errno := Expression(p, e, start())
		if errno != api.OK || got[len(e)-1] != typ {
			t.Fatalf("Expression(%q): %d, want %q", text, errno, typ)
		}
		for i, found := range got {
			if class, _ := tree.Class(e[i].Op); (class == tree.Expression || class == tree.Pattern) != (found != "") {
				t.Fatalf("%q: the node %v has the type %q", text, e[i], found)
			}
			if base, errno := types.Base(p, found); found != "" && (types.Check(p, found, nil) != api.OK || base != found || errno != api.OK) {
				t.Fatalf("%q: the type %q", text, found)
			}
		}
		renamed, bad := tree.Rename(e, "x", "other")
		vars := start()
		vars[0].Name = "other"
		if again, _, errno := Expression(p, renamed, vars); bad != api.OK || errno != api.OK || !slices.Equal(got, again) {
			t.Fatalf("%q: other types with another name", text)
		}
		by := expressionOf(t, "#s + len(l)")
		replaced, bad := tree.Subst(e, "x", by)
		if bad != api.OK {
			continue
		}
		if again, errno := TypeOf(p, replaced, start()); again != typ || errno != api.OK {
			t.Fatalf("%q: the type %q, %d with an expression for x", text, again, errno)
		}
	}
}

// TestParts is for P8.4: a subexpression has, in its context, the type that it has in the program.
func TestSubexpressions(t *testing.T) {
	w := &writer{rand.New(rand.NewSource(8)), 0}
	for range 25 {
		w.fresh = 0
		var params []string
		for _, b := range start() {
			params = append(params, b.Name+": "+b.Sort)
		}
		typ := w.any()
		text := samples + "function same<A>(x: A, y: A): A function here(" + strings.Join(params, ", ") + "): " + typ + " { " + w.of(start(), typ, 3) + " }"
		p, _, bad := parse.Program(text)
		if bad != api.OK {
			continue
		}
		all, _, e := Types(p)
		if e != api.OK {
			t.Fatalf("Types of %q: %d", text, e)
		}
		for i := first(t, p, api.DFunction, "cell"); i < len(p); i++ {
			if class, _ := tree.Class(p[i].Op); class != tree.Expression || w.Intn(4) > 0 {
				continue
			}
			context, e := Context(p, i)
			sub, f := tree.Sub(p, i)
			if e != api.OK || f != api.OK {
				t.Fatalf("Context, Sub: %d, %d", e, f)
			}
			alone, e := TypeOf(p, sub, context)
			if e != api.ErrOpen && (e != api.OK || alone != all[i]) {
				t.Fatalf("%s has the type %q, alone %q, %d", shown(p, i), all[i], alone, e)
			}
		}
	}
}

// TestAnyArguments is for P1: no trees, variables and nodes make a function panic, and beside an error there is no result.
func TestAnyArguments(t *testing.T) {
	r := rand.New(rand.NewSource(9))
	base := programOf(t, samples+body+"method all(x: int, s: List<Nat>, c: Cell, a: array<int>) returns (y: int) { var z: int := x; y := call all(z, s, c, a); match s { case Cons(h, Nil) => { z := h; } case _ => { } } calc { x; == { print x; } y; } c := new Cell(1, 2); a := new array<int>(3, 4); x :| x in [1]; forall i: int | true ensures i == i { } }")
	texts := []string{"", "x", "l", "Nil", "Cons", "List", "Cell", "Nat", "T", "A", "head", "v", "limit", "len", "all", "m", "0", "true", "\xff", "Two", "Loop", "s"}
	sorts := []string{"int", "List<int>", "Nat", "Nope", "", "T", "List", "seq<Cell>"}
	e := expressionOf(t, "match Cons(x, Nil) { case Cons(h, t) => (var i := h; [i, len(t)] + s) case _ => (if x in s then [] else s[0 := x]) }")
	changed := func(t api.Tree) api.Tree {
		out := make(api.Tree, 0, len(t))
		for _, n := range t {
			n.Kids = slices.Clone(n.Kids)
			out = append(out, n)
		}
		for range r.Intn(3) {
			n := &out[r.Intn(len(out))]
			switch r.Intn(6) {
			case 0:
				n.Op = r.Intn(api.Ops+4) - 2
			case 1:
				n.Kids = append(n.Kids, r.Intn(len(out)+2)-1)
			case 2:
				// an Op of the same form
				if n.Op >= api.EAdd && n.Op <= api.EShr {
					n.Op = api.EAdd + r.Intn(api.EShr-api.EAdd+1)
				}
			default:
				n.Text = texts[r.Intn(len(texts))]
			}
		}
		return out
	}
	for range 500 {
		p := changed(base)
		errnos(t, p)
		context, errno := Context(p, r.Intn(len(p)+2)-1)
		if errno != api.OK && len(context) > 0 {
			t.Fatalf("Context: %v, %d", context, errno)
		}
	}
	for range 500 {
		p := base
		if r.Intn(4) == 0 {
			p = changed(base)
		}
		vars := []api.Bound{{Name: "x", Sort: sorts[r.Intn(len(sorts))]}, {Name: "s", Sort: "seq<int>"}, {Name: texts[r.Intn(len(texts))], Sort: sorts[r.Intn(len(sorts))]}}
		x := changed(e)
		types, node, errno := Expression(p, x, vars[:r.Intn(4)])
		if errno != api.OK && len(types) > 0 || errno == api.OK && (node != 0 || len(types) != len(x)) || node < 0 {
			t.Fatalf("Expression: %q, %d, %d", types, node, errno)
		}
	}
}

// TestResults is for the rule on memory: results share none with each other, and arguments stay.
func TestResults(t *testing.T) {
	p := programOf(t, samples+body)
	before, _ := tree.Print(p)
	instances, _, _ := Instances(p)
	for i := range instances {
		for j := range instances[i].Args {
			instances[i].Args[j] = "changed"
		}
	}
	again, _, _ := Instances(p)
	for _, i := range again {
		if slices.Contains(i.Args, "changed") {
			t.Fatal("results share memory")
		}
	}
	if after, _ := tree.Print(p); after != before {
		t.Fatal("the argument is changed")
	}
}
