package calls

import (
	"slices"

	"entail/api"
	"entail/common"
	"entail/tree"
	"entail/walk"
)

// Induction returns the parameters of a lemma over which induction goes.
func Induction(p api.Tree, name string) ([]string, api.Errno) {
	g, c, e := readCallable(p, name)
	if e != api.OK {
		return nil, e
	}
	l := lemma{g, c}
	if !l.isLemma() {
		return nil, api.ErrKind
	}
	params, free := parameters(p, c.Place), l.arguments()
	chosen := slices.DeleteFunc(slices.Clone(params), func(node int) bool {
		return !free[p[node].Text] || !l.isInductive(p[node].Kids[0])
	})
	if first := slices.IndexFunc(params, func(node int) bool { return l.isDatatype(p[node].Kids[0]) }); len(chosen) == 0 && first >= 0 {
		chosen = params[first : first+1]
	}
	return common.Transform(chosen, func(node int) string { return p[node].Text }), api.OK
}

// lemma is a callable of a program, which is a lemma if it has the mark.
type lemma struct {
	*graph
	callable
}

// isLemma reports whether a callable is a method with the mark lemma.
func (l lemma) isLemma() bool {
	return l.Op == api.DMethod && slices.ContainsFunc(walk.Kids(l.tree, l.Node, api.DMark), func(mark int) bool { return l.tree[mark].Text == "lemma" })
}

// arguments returns the free variables of the arguments of recursive functions in the contract.
func (l lemma) arguments() map[string]bool {
	out := map[string]bool{}
	for _, clause := range walk.Kids(l.tree, l.Node, api.CRequires, api.CEnsures) {
		for node := walk.Start(l.tree, clause); node < clause; node++ {
			if n := l.tree[node]; n.Op != api.ECall || !l.isRecursiveFunction(n.Text) {
				continue
			}
			for _, argument := range l.tree[node].Kids {
				names, _ := tree.Free(walk.Sub(l.tree, argument))
				for _, name := range names {
					out[name] = true
				}
			}
		}
	}
	return out
}

// isRecursiveFunction reports whether a name is that of a function that can call itself.
func (g *graph) isRecursiveFunction(name string) bool {
	c, e := g.find(name)
	return e == api.OK && c.Op == api.DFunction && g.reached(c)[c.number]
}

// isInductive reports whether induction can go over a parameter of the type at a node.
func (l lemma) isInductive(node int) bool {
	switch l.tree[node].Op {
	case api.TInt, api.TBits, api.TSeq:
		return true
	}
	return l.isDatatype(node)
}

// isDatatype reports whether the type at a node is a datatype, and no type parameter of the lemma.
func (l lemma) isDatatype(node int) bool {
	name := l.tree[node].Text
	if l.tree[node].Op != api.TName || !isQualified(name) && slices.ContainsFunc(walk.Kids(l.tree, l.Node, api.DTypeParam), func(param int) bool { return l.tree[param].Text == name }) {
		return false
	}
	for p := range walk.Nodes(l.tree) {
		switch p.Op {
		case api.DCons, api.DDatatype, api.DSubset, api.DClass:
			if p.Text == name { // the first declaration of a name is meant
				return p.Op == api.DDatatype
			}
		}
	}
	return false
}

// isQualified reports whether a name has a module in front.
func isQualified(name string) bool {
	for _, c := range name {
		if c == ':' {
			return true
		}
	}
	return false
}
