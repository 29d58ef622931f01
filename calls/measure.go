package calls

import (
	"entail/api"
	"entail/common"
	"entail/module"
	"entail/tree"
	"entail/walk"
)

// Measure returns the expressions of the measure of a declaration, and whether they are given.
func Measure(p api.Tree, name string) ([]api.Tree, bool, api.Errno) {
	_, c, e := readCallable(p, name)
	if e != api.OK {
		return nil, false, e
	}
	if out, given := givenMeasure(p, c.Place); given {
		return out, true, api.OK
	}
	return common.Transform(parameters(p, c.Place), func(node int) api.Tree {
		return api.Tree{{Op: api.EVar, Text: p[node].Text}}
	}), false, api.OK
}

// LoopMeasure returns the expressions of the measure of a loop, and whether they are given.
func LoopMeasure(p api.Tree, node int) ([]api.Tree, bool, api.Errno) {
	if _, e := module.Names(p); e != api.OK {
		return nil, false, e
	}
	switch {
	case node < 0 || node >= len(p):
		return nil, false, api.ErrUnknown
	case p[node].Op != api.SWhile:
		return nil, false, api.ErrKind
	}
	if out, given := givenMeasure(p, walk.At(p, node)); given {
		return out, true, api.OK
	}
	return distance(p, p[node].Kids[0]), false, api.OK
}

// givenMeasure returns the expressions of the first CDecreases of a node, and whether there is one.
func givenMeasure(p api.Tree, of walk.Place) ([]api.Tree, bool) {
	clauses := walk.Kids(p, of.Node, api.CDecreases)
	if len(clauses) == 0 {
		return nil, false
	}
	return common.Transform(p[clauses[0]].Kids, func(kid int) api.Tree { return walk.Sub(p, kid) }), true
}

// parameters returns the nodes of the parameters of a callable.
func parameters(p api.Tree, of walk.Place) []int {
	return walk.Kids(p, of.Node, api.DParam, api.DGhostParam)
}

// distance returns what a condition says to be above 0, or nothing.
func distance(p api.Tree, condition int) []api.Tree {
	kids := p[condition].Kids
	switch p[condition].Op {
	case api.ELt, api.ELe:
		out, _ := tree.Make(api.ESub, "", []api.Tree{walk.Sub(p, kids[1]), walk.Sub(p, kids[0])})
		return []api.Tree{out}
	case api.EAnd:
		if out := distance(p, kids[0]); len(out) > 0 {
			return out
		}
		return distance(p, kids[1])
	}
	return nil
}
