package term

import (
	"slices"
	"strconv"

	"entail/api"
)

// forms of a formula: the positive one, which is equivalent to it, and the negative one, which is equivalent to its negation.
const (
	positive = iota
	negative
)

// pair is the Ops of both forms of a node.
type pair [2]int

// duals returns the Ops of the forms of an Op that are made of the same forms of its children; of others an empty pair.
func duals(op int) pair {
	switch op {
	case api.LTrue:
		return pair{api.LTrue, api.LFalse}
	case api.LFalse:
		return pair{api.LFalse, api.LTrue}
	case api.LAnd:
		return pair{api.LAnd, api.LOr}
	case api.LOr:
		return pair{api.LOr, api.LAnd}
	case api.LForall:
		return pair{api.LForall, api.LExists}
	case api.LExists:
		return pair{api.LExists, api.LForall}
	}
	return pair{}
}

// normalizer writes forms of the formulas in a term.
type normalizer struct {
	term api.Terms
	out  writer
}

// NNF returns the negation normal form of a formula.
func NNF(t api.Terms) (api.Terms, api.Errno) {
	if e := CheckForm(t); e != api.OK {
		return nil, e
	}
	if !isBool(t[len(t)-1].Sort) {
		return nil, api.ErrSort
	}
	n := normalizer{term: t}
	n.write(len(t)-1, positive)
	return n.out.finished()
}

// write appends a form of the formula at a node, and returns the index of its root.
func (n *normalizer) write(node, form int) int {
	if n.out.isFull() {
		return 0
	}
	t := n.term[node]
	kids := t.Kids
	switch {
	case duals(t.Op) != pair{}:
		return n.dual(node, form)
	case t.Op == api.LNot:
		return n.write(kids[0], 1-form)
	case t.Op == api.LImp && form == positive:
		return n.both(api.LOr, kids[0], negative, kids[1], positive)
	case t.Op == api.LImp:
		return n.both(api.LAnd, kids[0], positive, kids[1], negative)
	case t.Op == api.LIff, t.Op == api.LEq && isBool(n.term[kids[0]].Sort) && isBool(n.term[kids[1]].Sort):
		left := n.both(api.LOr, kids[0], 1-form, kids[1], positive)
		right := n.both(api.LOr, kids[0], form, kids[1], negative)
		return n.add(api.LAnd, left, right)
	case t.Op == api.LIte && isBool(t.Sort):
		left := n.both(api.LOr, kids[0], negative, kids[1], form)
		right := n.both(api.LOr, kids[0], positive, kids[2], form)
		return n.add(api.LAnd, left, right)
	}
	atom := n.out.copy(sub(n.term, node))
	if form == negative {
		return n.add(api.LNot, atom)
	}
	return atom
}

// dual appends a node in which a form of a formula has the same form of each child; triggers stay as they are.
func (n *normalizer) dual(node, form int) int {
	t := n.term[node]
	var kids []int
	for _, kid := range t.Kids {
		if n.term[kid].Op == api.LTrigger {
			kids = append(kids, n.out.copy(sub(n.term, kid)))
		} else {
			kids = append(kids, n.write(kid, form))
		}
	}
	t.Op = duals(t.Op)[form]
	return n.out.add(t, kids)
}

// both appends a connective of forms of two formulas.
func (n *normalizer) both(op, a, formOfA, b, formOfB int) int {
	left := n.write(a, formOfA)
	right := n.write(b, formOfB)
	return n.add(op, left, right)
}

func (n *normalizer) add(op int, kids ...int) int {
	return n.out.add(api.Term{Op: op, Sort: api.SortBool}, kids)
}

// skolemizer removes existential quantifiers from a negation normal form.
type skolemizer struct {
	term api.Terms
	at   []*binding
	open []bool               // which nodes are inside of no atom and no trigger
	apps map[[2]int]api.Terms // what the variables at places become
	funs []api.Fun
	out  writer
}

// Skolem returns a formula in negation normal form without existential quantifiers, and the new function symbols.
func Skolem(t api.Terms, prefix string) (api.Terms, []api.Fun, api.Errno) {
	n, e := NNF(t)
	if e != api.OK {
		return nil, nil, e
	}
	s := skolemizer{term: n, at: scopes(n), open: opened(n), apps: map[[2]int]api.Terms{}}
	switch {
	case s.hides():
		return nil, nil, api.ErrTwice
	case !isSymbol(prefix + "0"):
		return nil, nil, api.ErrName
	}
	s.functions(prefix)
	if slices.ContainsFunc(s.funs, func(f api.Fun) bool { return applies(t, f.Name) }) {
		return nil, nil, api.ErrTwice
	}
	s.write(len(n) - 1)
	out, e := s.out.finished()
	if e != api.OK {
		return nil, nil, e
	}
	return out, s.funs, api.OK
}

// applies reports whether a function is applied in a term.
func applies(t api.Terms, name string) bool {
	return slices.ContainsFunc(t, func(n api.Term) bool { return n.Op == api.LApp && n.Name == name })
}

// opened returns which nodes of a negation normal form are inside of no atom and no trigger.
func opened(t api.Terms) []bool {
	out := make([]bool, len(t))
	out[len(t)-1] = true
	for node := len(t) - 1; node >= 0; node-- {
		if !out[node] || duals(t[node].Op) == (pair{}) {
			continue
		}
		for _, kid := range t[node].Kids {
			out[kid] = t[kid].Op != api.LTrigger
		}
	}
	return out
}

// hides reports whether a variable of a quantifier has the name of one of a quantifier around it.
func (s *skolemizer) hides() bool {
	for p := range nodes(s.term) {
		for _, v := range p.Vars {
			if s.at[p.index].find(v.Name) != nil {
				return true
			}
		}
	}
	return false
}

// removed reports whether a quantifier is removed.
func (s *skolemizer) removed(node int) bool {
	return s.open[node] && s.term[node].Op == api.LExists
}

// functions makes the new functions, and notes their applications.
func (s *skolemizer) functions(prefix string) {
	for p := range nodes(s.term) {
		if !s.removed(p.index) {
			continue
		}
		around := s.universal(p.index)
		for i, v := range p.Vars {
			f := api.Fun{Name: prefix + strconv.Itoa(len(s.funs)), Sort: v.Sort}
			var args []api.Terms
			for _, u := range around {
				f.Args = append(f.Args, u.Sort)
				args = append(args, Var(u.Name, u.Sort))
			}
			s.funs = append(s.funs, f)
			s.apps[[2]int{p.index, i}] = joined(api.Term{Op: api.LApp, Sort: f.Sort, Name: f.Name}, args)
		}
	}
}

// universal returns the variables of the universal quantifiers around a node that is inside of no atom, the outermost ones first.
func (s *skolemizer) universal(node int) []api.Bound {
	var out []api.Bound
	for b := s.at[node]; b != nil; b = b.outer {
		if s.term[b.place[0]].Op == api.LForall {
			out = append(out, b.Bound)
		}
	}
	slices.Reverse(out)
	return out
}

// write appends the subterm at a node without the quantifiers that are removed, and returns the index of its root.
func (s *skolemizer) write(node int) int {
	n := s.term[node]
	if s.removed(node) {
		return s.write(n.Kids[len(n.Kids)-1])
	}
	if b := s.at[node].find(n.Name); b != nil && n.Op == api.LVar {
		if app, found := s.apps[b.place]; found {
			return s.out.copy(app)
		}
	}
	var kids []int
	for _, kid := range n.Kids {
		if s.out.isFull() {
			break
		}
		kids = append(kids, s.write(kid))
	}
	return s.out.add(n, kids)
}
