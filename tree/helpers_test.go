package tree

import (
	"math/rand"
	"testing"

	"entail/api"
)

// build returns a node above trees, which must be a syntax tree.
func build(t *testing.T, op int, text string, kids ...api.Tree) api.Tree {
	t.Helper()
	out, e := Make(op, text, kids)
	if e != api.OK {
		t.Fatalf("Make(%d, %q, %d trees): %d", op, text, len(kids), e)
	}
	return out
}

// raw returns a node above trees, whatever comes out.
func raw(op int, text string, kids ...api.Tree) api.Tree {
	var out api.Tree
	root := api.Node{Op: op, Text: text}
	for _, kid := range kids {
		base := len(out)
		for _, n := range kid {
			var indices []int
			for _, k := range n.Kids {
				indices = append(indices, k+base)
			}
			n.Kids = indices
			out = append(out, n)
		}
		root.Kids = append(root.Kids, len(out)-1)
	}
	return append(out, root)
}

// small is a node of a table: its Text and its children, which are the small trees of their Ops.
type small struct {
	text string
	kids []int
}

// smallest returns, for each Op, a small syntax tree with this Op at its root.
func smallest() map[int]small {
	e, ty, b := api.EVar, api.TInt, api.SBlock
	out := map[int]small{
		api.TBits: {"8", nil}, api.TSeq: {"", []int{ty}}, api.TSet: {"", []int{ty}}, api.TMulti: {"", []int{ty}}, api.TMap: {"", []int{ty, ty}}, api.TArray: {"", []int{ty}}, api.TName: {"T", nil},
		api.EInt: {"7", nil}, api.EReal: {"1.5", nil}, api.EBool: {"true", nil}, api.EVar: {"a", nil}, api.ENot: {"", []int{e}}, api.ENeg: {"", []int{e}}, api.EAs: {"", []int{e, ty}},
		api.EIf: {"", []int{e, e, e}}, api.ELet: {"x", []int{e, e}}, api.ECall: {"f", nil}, api.ECons: {"C", nil}, api.EField: {"g", []int{e}}, api.EIs: {"C", []int{e}}, api.EIndex: {"", []int{e, e}},
		api.ESlice: {"", []int{e, e, e}}, api.EUpdate: {"", []int{e, e, e}}, api.ECard: {"", []int{e}}, api.EForall: {"", []int{api.QVar, e}}, api.EExists: {"", []int{api.QVar, e}},
		api.ESetOf: {"", []int{api.QVar, e, e}}, api.EMatch: {"", []int{e, api.ECase}}, api.ECase: {"", []int{api.PVar, e}}, api.EOld: {"", []int{e}}, api.EFresh: {"", []int{e}},
		api.QVar: {"x", []int{ty}}, api.QTrigger: {"", []int{e}}, api.PVar: {"x", nil}, api.PCons: {"C", nil}, api.PLit: {"", []int{api.EInt}},
		api.SVar: {"x", []int{ty}}, api.SGhostVar: {"x", []int{ty}}, api.SAssign: {"", []int{e, e}}, api.SHavoc: {"", []int{e}}, api.SChoose: {"x", []int{e}}, api.SCall: {"m", []int{api.SLhs}},
		api.SNew: {"x", []int{api.TName}}, api.SNewArray: {"x", []int{ty, e, e}}, api.SIf: {"", []int{e, b}}, api.SAlt: {"", []int{api.SGuard}}, api.SGuard: {"", []int{e, b}}, api.SWhile: {"", []int{e, b}},
		api.SMatch: {"", []int{e, api.SCase}}, api.SCase: {"", []int{api.PVar, b}}, api.SAssert: {"", []int{e}}, api.SAssume: {"", []int{e}}, api.SCalc: {"", []int{api.SStep}}, api.SStep: {"", []int{e}},
		api.SForall: {"", []int{api.QVar, e, api.CEnsures, b}}, api.SPrint: {"", []int{e}}, api.SReveal: {"f", nil},
		api.CRequires: {"", []int{e}}, api.CEnsures: {"", []int{e}}, api.CInvariant: {"", []int{e}}, api.CDecreases: {"", []int{e}}, api.CReads: {"", []int{e}}, api.CModifies: {"", []int{e}},
		api.DParam: {"x", []int{ty}}, api.DGhostParam: {"x", []int{ty}}, api.DOut: {"y", []int{ty}}, api.DTypeParam: {"T", nil}, api.DField: {"g", []int{ty}}, api.DGhostField: {"g", []int{ty}},
		api.DCons: {"C", nil}, api.DDatatype: {"D", []int{api.DCons}}, api.DSubset: {"S", []int{api.DParam, e, e}}, api.DClass: {"K", nil}, api.DConst: {"c", []int{ty, e}}, api.DMark: {"ghost", nil},
		api.DFunction: {"f", []int{api.DResult}}, api.DResult: {"", []int{ty}}, api.DMethod: {"m", nil}, api.MImport: {"A", nil}, api.MName: {"x", nil}, api.MRefines: {"N", nil}, api.MModule: {"M", nil},
		api.MProgram: {"", []int{api.MModule}},
	}
	for op := api.EAdd; op <= api.EShr; op++ {
		out[op] = small{"", []int{e, e}}
	}
	return out
}

// smalls is the table of smallest, made once.
var smalls = smallest()

// smallTree returns the small tree of an Op.
func smallTree(op int) api.Tree {
	s := smalls[op]
	var kids []api.Tree
	for _, kid := range s.kids {
		kids = append(kids, smallTree(kid))
	}
	return raw(op, s.text, kids...)
}

// maker makes random trees.
type maker struct {
	*rand.Rand
}

var variables = []string{"x", "y", "z", "v_0", "v_1", "w"}

func (m maker) pick(list ...string) string {
	return list[m.Intn(len(list))]
}

func (m maker) variable() string {
	return variables[m.Intn(len(variables))]
}

func (m maker) typ(depth int) api.Tree {
	if depth == 0 {
		return raw(m.Intn(3), "")
	}
	switch m.Intn(5) {
	case 0:
		return raw(api.TMap, "", m.typ(depth-1), m.typ(depth-1))
	case 1:
		return raw(api.TSeq+m.Intn(3), "", m.typ(depth-1))
	case 2:
		return raw(api.TName, m.pick("T", "M::D"), m.typ(depth-1))
	case 3:
		return raw(api.TBits, m.pick("1", "64"))
	}
	return raw(m.Intn(3), "")
}

func (m maker) pattern(depth int) api.Tree {
	switch {
	case depth == 0 || m.Intn(3) == 0:
		return raw(api.PVar, m.variable())
	case m.Intn(3) == 0:
		return raw(api.PWild, "")
	case m.Intn(3) == 0:
		return raw(api.PLit, "", raw(api.ENeg, "", raw(api.EInt, "3")))
	}
	return raw(api.PCons, m.pick("C", "M::Nil"), m.pattern(depth-1), m.pattern(depth-1))
}

func (m maker) some(least int, f func(int) api.Tree, depth int) []api.Tree {
	var out []api.Tree
	for range least + m.Intn(3) {
		out = append(out, f(depth))
	}
	return out
}

func (m maker) expr(depth int) api.Tree {
	if depth == 0 || m.Intn(6) == 0 {
		return m.leaf()
	}
	e := func() api.Tree { return m.expr(depth - 1) }
	qvar := func(int) api.Tree { return raw(api.QVar, m.variable(), m.typ(1)) }
	switch m.Intn(14) {
	case 0, 1, 2:
		return raw(api.EAdd+m.Intn(api.EShr-api.EAdd+1), "", e(), e())
	case 3:
		return raw([]int{api.ENot, api.ENeg, api.ECard, api.EOld, api.EFresh}[m.Intn(5)], "", e())
	case 4:
		return raw(api.ELet, m.variable(), e(), e())
	case 5, 6:
		kids := m.some(1, qvar, 0)
		for range m.Intn(2) {
			kids = append(kids, raw(api.QTrigger, "", m.some(1, m.expr, depth-1)...))
		}
		return raw(api.EForall+m.Intn(2), "", append(kids, e())...)
	case 7:
		return raw(api.ESetOf, "", qvar(0), e(), e())
	case 8:
		kids := []api.Tree{e()}
		for range 1 + m.Intn(2) {
			kids = append(kids, raw(api.ECase, "", m.pattern(2), e()))
		}
		return raw(api.EMatch, "", kids...)
	case 9:
		if m.Intn(2) == 0 {
			return raw(api.ECons, m.pick("C", "M::Nil"), m.some(0, m.expr, depth-1)...)
		}
		return raw(api.ECall, m.pick("f", "M::f"), m.some(0, m.expr, depth-1)...)
	case 10:
		return raw(api.EIf+(api.ESlice-api.EIf)*m.Intn(2), "", e(), e(), e())
	case 11:
		return raw(api.ESeq+m.Intn(3), "", m.some(0, m.expr, depth-1)...)
	case 12:
		return raw(api.EAs, "", e(), m.typ(2))
	}
	return raw(api.EField, "g", e())
}

func (m maker) leaf() api.Tree {
	switch m.Intn(6) {
	case 0:
		return raw(api.EInt, m.pick("0", "42"))
	case 1:
		return raw(api.EReal, "0.25")
	case 2:
		return raw(api.EVar, "M::c")
	}
	return raw(api.EVar, m.variable())
}

// block returns a random SBlock.
func (m maker) block(depth int) api.Tree {
	return raw(api.SBlock, "", m.some(0, m.stmt, depth)...)
}

func (m maker) stmt(depth int) api.Tree {
	e := func() api.Tree { return m.expr(2) }
	if depth > 0 {
		switch m.Intn(6) {
		case 0:
			return m.block(depth - 1)
		case 1:
			return raw(api.SIf, "", e(), m.block(depth-1), raw(api.SIf, "", e(), m.block(depth-1)))
		case 2:
			return raw(api.SWhile, "", e(), raw(api.CInvariant, "", e()), raw(api.CDecreases, "", e()), m.block(depth-1))
		case 3:
			return raw(api.SMatch, "", e(), raw(api.SCase, "", m.pattern(2), m.block(depth-1)))
		case 4:
			return raw(api.SForall, "", raw(api.QVar, m.variable(), m.typ(1)), e(), raw(api.CEnsures, "", e()), m.block(depth-1))
		}
		return raw(api.SAlt, "", raw(api.SGuard, "", e(), m.block(depth-1)))
	}
	switch m.Intn(6) {
	case 0:
		return raw(api.SVar+m.Intn(2), m.variable(), m.typ(1), e())
	case 1:
		return raw(api.SChoose, m.variable(), e())
	case 2:
		return raw(api.SCall, "m", raw(api.SLhs, "", raw(api.EVar, m.variable())), e())
	case 3:
		return raw(api.SNew, m.variable(), raw(api.TName, "K"), e())
	case 4:
		return raw(api.SNewArray, m.variable(), m.typ(1), e(), e())
	}
	return raw(api.SAssign, "", raw(api.EVar, m.variable()), e())
}

// declaration returns a random method or function.
func (m maker) declaration() api.Tree {
	typed := func(op int) api.Tree { return raw(op, m.variable(), m.typ(1)) }
	clause := func(op int) api.Tree { return raw(op, "", m.expr(2)) }
	if m.Intn(2) == 0 {
		return raw(api.DFunction, "f", typed(api.DParam), typed(api.DGhostParam), raw(api.DResult, "", m.typ(1)), clause(api.CRequires), clause(api.CReads), clause(api.CEnsures), clause(api.CDecreases), m.expr(3))
	}
	return raw(api.DMethod, "m", typed(api.DParam), typed(api.DOut), clause(api.CRequires), clause(api.CModifies), clause(api.CEnsures), clause(api.CDecreases), m.block(2))
}

// trees calls a test with random expressions, blocks and declarations.
func trees(t *testing.T, n int, test func(m maker, tree api.Tree)) {
	m := maker{rand.New(rand.NewSource(7))}
	for i := range n {
		tree := m.expr(1 + i%5)
		switch i % 4 {
		case 0:
			tree = m.block(2)
		case 1:
			tree = m.declaration()
		}
		for j := range tree { // offsets of any kind
			tree[j].At = m.Intn(100)
		}
		if at, e := Check(tree); e != api.OK {
			t.Fatalf("Check of a tree that was made: %d, %d, %v", at, e, tree)
		}
		test(m, tree)
	}
}
