package term

import (
	"math/rand"
	"strconv"
	"testing"

	"entail/api"
)

// example is the signature of the document's examples, with an Int and functions of numbers beside.
func example() api.Signature {
	return api.Signature{
		Sorts: []string{"E"},
		Datas: []api.Datatype{{Sort: "L", Cons: []api.Cons{{Name: "nil"}, {Name: "cons", Fields: []api.Bound{{Name: "head", Sort: "E"}, {Name: "tail", Sort: "L"}}}}}},
		Funs: []api.Fun{
			{Name: "c", Sort: "E"}, {Name: "f", Args: []string{"E"}, Sort: "E"}, {Name: "p", Args: []string{"E"}, Sort: "Bool"},
			{Name: "n", Sort: "Int"}, {Name: "g", Args: []string{"Int", "E"}, Sort: "Int"}, {Name: "q", Args: []string{"E", "E"}, Sort: "Bool"},
		},
	}
}

// free are variables for the texts of the tests.
func free() []api.Bound {
	return []api.Bound{{Name: "x", Sort: "E"}, {Name: "y", Sort: "E"}, {Name: "z", Sort: "E"}, {Name: "b", Sort: "Bool"}, {Name: "i", Sort: "Int"}, {Name: "r", Sort: "Real"}, {Name: "m", Sort: "Map<Int,E>"}, {Name: "l", Sort: "L"}}
}

// of returns the term of a text.
func of(t *testing.T, s string) api.Terms {
	t.Helper()
	x, at, e := Parse(example(), free(), s)
	if e != api.OK {
		t.Fatalf("Parse(%q): %d at %d", s, e, at)
	}
	return x
}

// shown returns the text of a term.
func shown(t *testing.T, x api.Terms) string {
	t.Helper()
	s, e := Print(x)
	if e != api.OK {
		t.Fatalf("Print(%v): %d", x, e)
	}
	return s
}

// maker makes random well-sorted terms.
type maker struct {
	*rand.Rand
	t     *testing.T
	names []string // of bound variables
}

func newMaker(t *testing.T, seed int64) *maker {
	return &maker{rand.New(rand.NewSource(seed)), t, []string{"x", "y", "z", "x'", "y''", "u"}}
}

// got returns a term that was made without an error.
func (m *maker) got(x api.Terms, e api.Errno) api.Terms {
	m.t.Helper()
	if e != api.OK {
		m.t.Fatalf("a term cannot be made: %d", e)
	}
	return x
}

// variable returns a variable of a sort among those in scope, or nothing.
func (m *maker) variable(scope []api.Bound, sort string) api.Terms {
	seen := map[string]bool{}
	var all []api.Bound
	for i := len(scope) - 1; i >= 0; i-- {
		if !seen[scope[i].Name] && scope[i].Sort == sort {
			all = append(all, scope[i])
		}
		seen[scope[i].Name] = true
	}
	if len(all) == 0 {
		return nil
	}
	v := all[m.Intn(len(all))]
	return Var(v.Name, v.Sort)
}

// element returns a random term of the sort E.
func (m *maker) element(scope []api.Bound, depth int) api.Terms {
	if v := m.variable(scope, "E"); v != nil && m.Intn(3) > 0 {
		return v
	}
	if depth <= 0 {
		return m.got(App(example(), "c"))
	}
	switch m.Intn(3) {
	case 0:
		return m.got(App(example(), "f", m.element(scope, depth-1)))
	case 1:
		return m.got(Make(api.LIte, m.formula(scope, depth-1), m.element(scope, depth-1), m.element(scope, depth-1)))
	}
	return m.got(App(example(), "c"))
}

// number returns a random term of the sort Int.
func (m *maker) number(scope []api.Bound, depth int) api.Terms {
	if depth <= 0 {
		if m.Intn(3) == 0 {
			return m.got(App(example(), "n"))
		}
		return m.got(Num("Int", []string{"0", "1", "2", "-3"}[m.Intn(4)]))
	}
	if m.Intn(4) == 0 {
		return m.got(App(example(), "g", m.number(scope, depth-1), m.element(scope, depth-1)))
	}
	return m.got(Make(api.LAdd+m.Intn(3), m.number(scope, depth-1), m.number(scope, depth-1)))
}

// formula returns a random formula.
func (m *maker) formula(scope []api.Bound, depth int) api.Terms {
	if depth <= 0 {
		switch m.Intn(4) {
		case 0:
			return Bool(m.Intn(2) == 0)
		case 1:
			if v := m.variable(scope, "Bool"); v != nil {
				return v
			}
		}
		return m.got(App(example(), "p", m.element(scope, 0)))
	}
	sub := func() api.Terms { return m.formula(scope, depth-1) }
	switch m.Intn(12) {
	case 0, 1:
		return m.got(Make(api.LNot, sub()))
	case 2, 3:
		var kids []api.Terms
		for range m.Intn(4) {
			kids = append(kids, sub())
		}
		return m.got(Make(api.LAnd+m.Intn(2), kids...))
	case 4:
		return m.got(Make(api.LImp+m.Intn(2), sub(), sub()))
	case 5:
		return m.got(Make(api.LEq, sub(), sub()))
	case 6:
		return m.got(Make(api.LIte, sub(), sub(), sub()))
	case 7:
		return m.got(Make(api.LEq, m.element(scope, depth-1), m.element(scope, depth-1)))
	case 8:
		return m.got(Make(api.LLt+m.Intn(2), m.number(scope, depth-1), m.number(scope, depth-1)))
	case 9:
		return m.got(App(example(), "q", m.element(scope, depth-1), m.element(scope, depth-1)))
	}
	return m.quantified(scope, depth)
}

// quantified returns a random quantifier over E and Bool.
func (m *maker) quantified(scope []api.Bound, depth int) api.Terms {
	var vars []api.Bound
	at := m.Intn(len(m.names))
	for range 1 + m.Intn(2) {
		vars = append(vars, api.Bound{Name: m.names[at], Sort: []string{"E", "E", "Bool"}[m.Intn(3)]})
		at = (at + 1) % len(m.names)
	}
	scope = append(append([]api.Bound{}, scope...), vars...)
	var triggers [][]api.Terms
	for range m.Intn(2) {
		triggers = append(triggers, []api.Terms{m.element(scope, 1), m.formula(scope, 0)})
	}
	return m.got(Quantify(api.LForall+m.Intn(2), vars, triggers, m.formula(scope, depth-1)))
}

// world gives the symbols of the example a meaning: E has two elements.
type world struct {
	c    int
	f    [2]int
	p    [2]bool
	q    [2][2]bool
	n    int
	g    [5][2]int
	more map[string]func(args []int) int // other functions
}

func newWorld(r *rand.Rand) world {
	w := world{c: r.Intn(2), n: r.Intn(7) - 3, more: map[string]func([]int) int{}}
	for i := range 2 {
		w.f[i], w.p[i] = r.Intn(2), r.Intn(2) == 0
		for j := range 2 {
			w.q[i][j] = r.Intn(2) == 0
		}
		for j := range 5 {
			w.g[j][i] = r.Intn(9) - 4
		}
	}
	return w
}

func truth(b bool) int {
	if b {
		return 1
	}
	return 0
}

// value returns the value of a node of a term with values of its variables; those of Bool are 0 and 1.
func (w world) value(t api.Terms, node int, env map[string]int) int {
	n := t[node]
	kid := func(i int) int { return w.value(t, n.Kids[i], env) }
	switch n.Op {
	case api.LTrue:
		return 1
	case api.LFalse:
		return 0
	case api.LNum:
		v, _ := strconv.Atoi(n.Name)
		return v
	case api.LVar:
		return env[n.Name]
	case api.LApp:
		var args []int
		for i := range n.Kids {
			args = append(args, kid(i))
		}
		return w.apply(n.Name, args)
	case api.LNot:
		return 1 - kid(0)
	case api.LAnd, api.LOr:
		for i := range n.Kids {
			if kid(i) == truth(n.Op == api.LOr) {
				return truth(n.Op == api.LOr)
			}
		}
		return truth(n.Op == api.LAnd)
	case api.LImp:
		return truth(kid(0) <= kid(1))
	case api.LIff, api.LEq:
		return truth(kid(0) == kid(1))
	case api.LIte:
		return kid(2 - kid(0))
	case api.LAdd:
		return kid(0) + kid(1)
	case api.LSub:
		return kid(0) - kid(1)
	case api.LMul:
		return kid(0) * kid(1)
	case api.LLt:
		return truth(kid(0) < kid(1))
	case api.LLe:
		return truth(kid(0) <= kid(1))
	}
	return w.quantifier(t, n, n.Vars, env)
}

// quantifier returns the value of a quantifier over the variables that are left; all sorts have two elements.
func (w world) quantifier(t api.Terms, n api.Term, left []api.Bound, env map[string]int) int {
	if len(left) == 0 {
		return w.value(t, n.Kids[len(n.Kids)-1], env)
	}
	inner := map[string]int{}
	for name, v := range env {
		inner[name] = v
	}
	values := [2]int{}
	for v := range 2 {
		inner[left[0].Name] = v
		values[v] = w.quantifier(t, n, left[1:], inner)
	}
	if n.Op == api.LForall {
		return min(values[0], values[1])
	}
	return max(values[0], values[1])
}

func (w world) apply(name string, args []int) int {
	switch name {
	case "c":
		return w.c
	case "f":
		return w.f[args[0]]
	case "p":
		return truth(w.p[args[0]])
	case "q":
		return truth(w.q[args[0]][args[1]])
	case "n":
		return w.n
	case "g":
		return w.g[((args[0]%5)+5)%5][args[1]]
	}
	return w.more[name](args)
}

// random returns random values for the free variables of the tests.
func (w world) random(r *rand.Rand) map[string]int {
	return map[string]int{"x": r.Intn(2), "y": r.Intn(2), "z": r.Intn(2), "b": r.Intn(2)}
}

// number of the root.
func root(t api.Terms) int {
	return len(t) - 1
}

// scope are the free variables that random terms may have.
func scope() []api.Bound {
	return free()[:4]
}
