package tree

import (
	"slices"
	"testing"

	"entail/api"
)

// kidGroup is a group of children as the document's table has it: the Ops that may stand there, the least number, and the greatest one (-1: none).
type kidGroup struct {
	ops         []int
	least, most int
}

func any1(ops ...int) kidGroup                     { return kidGroup{ops, 1, 1} }
func any0(ops ...int) kidGroup                     { return kidGroup{ops, 0, 1} }
func star(ops ...int) kidGroup                     { return kidGroup{ops, 0, -1} }
func plus(ops ...int) kidGroup                     { return kidGroup{ops, 1, -1} }
func between(least, most int, ops ...int) kidGroup { return kidGroup{ops, least, most} }

// classes returns the Ops of types, expressions, patterns, statements and declarations.
func classes() (types, expressions, patterns, statements, declarations []int) {
	lists := [...]*[]int{Type: &types, Expression: &expressions, Pattern: &patterns, Statement: &statements, Declaration: &declarations, Clause: new([]int)}
	for op := range api.Ops {
		if c, _ := Class(op); c < len(lists) {
			*lists[c] = append(*lists[c], op)
		}
	}
	return
}

// documented returns the children of all Ops that have any, as the document's table lists them.
func documented() map[int][]kidGroup {
	ty, e, p, s, d := classes()
	block, param := any1(api.SBlock), []int{api.DParam, api.DGhostParam}
	out := map[int][]kidGroup{
		api.TSeq: {any1(ty...)}, api.TSet: {any1(ty...)}, api.TMulti: {any1(ty...)}, api.TArray: {any1(ty...)}, api.TMap: {any1(ty...), any1(ty...)}, api.TName: {star(ty...)},
		api.EAs: {any1(e...), any1(ty...)}, api.EIf: {any1(e...), any1(e...), any1(e...)}, api.ELet: {any1(e...), any1(e...)}, api.ECall: {star(e...)}, api.ECons: {star(e...)}, api.EField: {any1(e...)}, api.EIs: {any1(e...)}, api.EIndex: {any1(e...), any1(e...)},
		api.ESlice: {any1(e...), any1(e...), any1(e...)}, api.EUpdate: {any1(e...), any1(e...), any1(e...)}, api.ESeq: {star(e...)}, api.ESet: {star(e...)}, api.EMulti: {star(e...)},
		api.EForall: {between(1, 4, api.QVar), between(0, 4, api.QTrigger), any1(e...)}, api.EExists: {between(1, 4, api.QVar), between(0, 4, api.QTrigger), any1(e...)}, api.ESetOf: {any1(api.QVar), any1(e...), any1(e...)}, api.EMatch: {any1(e...), plus(api.ECase)}, api.ECase: {any1(p...), any1(e...)},
		api.QVar: {any1(ty...)}, api.QTrigger: {plus(e...)}, api.PCons: {star(p...)}, api.SBlock: {star(s...)}, api.SVar: {any1(ty...), any0(e...)}, api.SGhostVar: {any1(ty...), any0(e...)}, api.SAssign: {any1(api.EVar, api.EField, api.EIndex), any1(e...)}, api.SHavoc: {any1(api.EVar, api.EField, api.EIndex)},
		api.SChoose: {any1(e...)}, api.SCall: {any1(api.SLhs), star(e...)}, api.SLhs: {star(api.EVar)}, api.SNew: {any1(api.TName), star(e...)}, api.SNewArray: {any1(ty...), any1(e...), any1(e...)}, api.SIf: {any1(e...), block, any0(api.SBlock, api.SIf)}, api.SAlt: {plus(api.SGuard)}, api.SGuard: {any1(e...), block},
		api.SWhile: {any1(e...), star(api.CInvariant), any0(api.CDecreases), star(api.CModifies), block}, api.SMatch: {any1(e...), plus(api.SCase)}, api.SCase: {any1(p...), block}, api.SAssert: {any1(e...), any0(api.SBlock)}, api.SAssume: {any1(e...)}, api.SPrint: {any1(e...)}, api.SStep: {any1(e...), any0(api.SBlock)},
		api.SForall: {between(1, 4, api.QVar), any1(e...), any1(api.CEnsures), block}, api.CDecreases: {plus(e...)}, api.DCons: {star(api.DField)}, api.DDatatype: {star(api.DTypeParam), plus(api.DCons)}, api.DSubset: {any1(api.DParam), any1(e...), any1(e...)}, api.DClass: {star(api.DField, api.DGhostField)}, api.DConst: {any1(ty...), any1(e...)}, api.DResult: {any1(ty...)},
		api.DFunction: {star(api.DMark), star(api.DTypeParam), star(param...), any1(api.DResult), star(api.CRequires), star(api.CReads), star(api.CEnsures), any0(api.CDecreases), any0(e...)},
		api.DMethod:   {star(api.DMark), star(api.DTypeParam), star(param...), star(api.DOut), star(api.CRequires), star(api.CModifies), star(api.CEnsures), any0(api.CDecreases), any0(api.SBlock)},
		api.MExport:   {star(api.MName)}, api.MModule: {any0(api.MRefines), star(api.MImport), any0(api.MExport), star(d...)}, api.MProgram: {plus(api.MModule)},
	}
	for op := api.EAdd; op <= api.EShr; op++ {
		out[op] = []kidGroup{any1(e...), any1(e...)}
	}
	for _, op := range []int{api.ENot, api.ENeg, api.ECard, api.EOld, api.EFresh, api.CRequires, api.CEnsures, api.CInvariant, api.CReads, api.CModifies} {
		out[op] = []kidGroup{any1(e...)}
	}
	for _, op := range []int{api.DParam, api.DGhostParam, api.DOut, api.DField, api.DGhostField} {
		out[op] = []kidGroup{any1(ty...)}
	}
	return out
}

// expect compares the error of an Op above children with the one that is wanted.
func expect(t *testing.T, op int, kids []int, want api.Errno) {
	t.Helper()
	var below []api.Tree
	for _, kid := range kids {
		below = append(below, smallTree(kid))
	}
	tree := raw(op, smalls[op].text, below...)
	at, e := Check(tree)
	if e != want || e != api.OK && at != len(tree)-1 {
		t.Errorf("Check of Op %d above %v: %d, %d, want %d", op, kids, at, e, want)
	}
}

// row returns children: n of one group, and of the others as few as there may be.
func (g kidGroup) row(groups []kidGroup, at, n int) []int {
	var out []int
	for i, other := range groups {
		count := other.least
		if i == at {
			count = n
		}
		for range count {
			out = append(out, other.ops[0])
		}
	}
	return out
}

// TestGroups is for P2.1: each group of children of each Op with the numbers that it may have, one less and one more, and with each Op there is.
func TestGroups(t *testing.T) {
	table := documented()
	for op, groups := range table {
		for i, g := range groups {
			expect(t, op, g.row(groups, i, g.least), api.OK)
			if g.least > 0 {
				expect(t, op, g.row(groups, i, g.least-1), api.ErrShape)
			}
			if g.most < 0 {
				expect(t, op, g.row(groups, i, 5), api.OK)
				continue
			}
			expect(t, op, g.row(groups, i, g.most), api.OK)
			if next := i + 1; next == len(groups) || !slices.Contains(groups[next].ops, g.ops[0]) {
				expect(t, op, g.row(groups, i, g.most+1), api.ErrShape)
			}
		}
	}
	for op := range api.Ops {
		if groups := table[op]; len(groups) == 0 && op != api.EMap && op != api.PLit && op != api.SCalc {
			expect(t, op, []int{api.EVar}, api.ErrShape)
		}
	}
}

// TestGroupOps is for P2.1: which Ops a group takes. A child that no group takes is ErrForm.
func TestGroupOps(t *testing.T) {
	for op, groups := range documented() {
		for i, g := range groups {
			for kid := range api.Ops {
				kids := g.row(groups, i, max(1, g.least))
				at := 0
				for _, before := range groups[:i] {
					at += before.least
				}
				kids[at] = kid
				if slices.Contains(g.ops, kid) {
					expect(t, op, kids, api.OK)
				} else if !slices.ContainsFunc(groups, func(o kidGroup) bool { return slices.Contains(o.ops, kid) }) {
					expect(t, op, kids, api.ErrForm)
				}
			}
		}
	}
}
