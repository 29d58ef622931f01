package term

import (
	"slices"
	"strconv"
	"strings"

	"entail/api"
	"entail/common"
)

// label is what a node is without its variables and children.
type label struct {
	op         int
	sort, name string
}

func (p place) label() label {
	return label{p.Op, p.Sort, p.Name}
}

// equal reports whether all fields of two nodes are equal.
func equal(a, b api.Term) bool {
	x, y := place{a, 0}, place{b, 0}
	return x.label() == y.label() && slices.Equal(a.Vars, b.Vars) && slices.Equal(a.Kids, b.Kids)
}

// nameless returns a term in which the bound variables have, instead of their names, the number of their quantifier and their position there. (No variable has a name with a space.)
func nameless(t api.Terms) api.Terms {
	out, at := moved(t, 0), scopes(t)
	for p := range nodes(t) {
		for i := range p.Vars {
			out[p.index].Vars[i].Name = ""
		}
		if p.Op != api.LVar {
			continue
		}
		if b := at[p.index].find(p.Name); b != nil {
			out[p.index].Name = strconv.Itoa(b.place[0]) + " " + strconv.Itoa(b.place[1])
		}
	}
	return out
}

// replacement is what a free variable becomes: a term, or a variable that has another name only.
type replacement struct {
	term api.Terms
	name string
	free map[string]bool // the free variables
}

// substitution replaces free variables in a term.
type substitution struct {
	term api.Terms
	at   []*binding
	out  writer
}

// Subst returns a term in which free variables are replaced.
func Subst(t api.Terms, l []Binding) (api.Terms, api.Errno) {
	if e := CheckForm(t); e != api.OK {
		return nil, e
	}
	by, e := replacements(l)
	if e != api.OK {
		return nil, e
	}
	s := substitution{term: t, at: scopes(t)}
	s.write(len(t)-1, by)
	return s.out.finished()
}

// replacements returns what a list of bindings says.
func replacements(l []Binding) (map[string]replacement, api.Errno) {
	if len(l) > maxList {
		return nil, api.ErrMany
	}
	out, seen := map[string]replacement{}, map[string]bool{}
	for _, b := range l {
		if e := common.First(variable(b.Name, seen), CheckForm(b.Term)); e != api.OK {
			return nil, e
		}
		out[b.Name] = replacement{b.Term, "", freeNames(b.Term, scopes(b.Term), len(b.Term)-1)}
	}
	return out, api.OK
}

// freeNames returns the variables in the subterm at a node that are not bound within the nodes up to it.
func freeNames(t api.Terms, at []*binding, upTo int) map[string]bool {
	return namesBelow(t, at, upTo, upTo)
}

// namesBelow returns the variables in the subterm at a node that are bound by no node up to another one.
func namesBelow(t api.Terms, at []*binding, root, upTo int) map[string]bool {
	out := map[string]bool{}
	for i := start(t, root); i <= root; i++ {
		if t[i].Op != api.LVar {
			continue
		}
		if b := at[i].find(t[i].Name); b == nil || b.place[0] > upTo {
			out[t[i].Name] = true
		}
	}
	return out
}

// write appends the subterm at a node with what its free variables become, and returns the index of its root.
func (s *substitution) write(node int, by map[string]replacement) int {
	n := s.term[node]
	if r, found := by[n.Name]; found && n.Op == api.LVar {
		if r.term != nil {
			return s.out.copy(r.term)
		}
		return s.out.add(api.Term{Op: n.Op, Sort: n.Sort, Name: r.name}, nil)
	}
	if isQuantifier(n.Op) {
		n.Vars, by = s.enter(node, by)
	}
	var kids []int
	for _, kid := range n.Kids {
		if s.out.isFull() {
			break
		}
		kids = append(kids, s.write(kid, by))
	}
	return s.out.add(n, kids)
}

// enter returns the variables of a quantifier with their new names, and what the free variables inside of it become.
func (s *substitution) enter(node int, by map[string]replacement) ([]api.Bound, map[string]replacement) {
	inner, taken := map[string]replacement{}, map[string]bool{}
	for name := range freeNames(s.term, s.at, node) {
		if r, found := by[name]; found {
			inner[name] = r
			for free := range r.free {
				taken[free] = true
			}
		}
	}
	vars := slices.Clone(s.term[node].Vars)
	below := namesBelow(s.term, s.at, node, node-1)
	for i, v := range vars {
		if taken[v.Name] {
			vars[i].Name = newName(vars, i, taken, below)
			inner[v.Name] = replacement{nil, vars[i].Name, map[string]bool{vars[i].Name: true}}
		}
	}
	return vars, inner
}

// newName returns a new name for a variable of a quantifier.
func newName(vars []api.Bound, at int, taken, below map[string]bool) string {
	name := vars[at].Name
search:
	for marks := 1; ; marks++ {
		name = vars[at].Name + strings.Repeat("'", marks)
		if taken[name] || below[name] {
			continue
		}
		for i, v := range vars {
			if i != at && v.Name == name {
				continue search
			}
		}
		break search
	}
	return name
}
