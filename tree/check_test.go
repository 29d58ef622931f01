package tree

import (
	"strings"
	"testing"

	"entail/api"
)

// TestClass is for P2.1: the classes of all Ops.
func TestClass(t *testing.T) {
	lists := map[int][]int{
		Type:        {api.TBool, api.TInt, api.TReal, api.TBits, api.TSeq, api.TSet, api.TMulti, api.TMap, api.TArray, api.TName},
		Expression:  {api.EOld, api.EFresh},
		Pattern:     {api.PVar, api.PWild, api.PCons, api.PLit},
		Statement:   {api.SBlock, api.SVar, api.SGhostVar, api.SAssign, api.SHavoc, api.SChoose, api.SCall, api.SNew, api.SNewArray, api.SIf, api.SAlt, api.SWhile, api.SMatch, api.SAssert, api.SAssume, api.SCalc, api.SForall, api.SReturn, api.SPrint, api.SReveal},
		Clause:      {api.CRequires, api.CEnsures, api.CInvariant, api.CDecreases, api.CReads, api.CModifies},
		Declaration: {api.DDatatype, api.DSubset, api.DClass, api.DConst, api.DFunction, api.DMethod},
		Module:      {api.MModule, api.MProgram},
		Other:       {api.ECase, api.QVar, api.QTrigger, api.SLhs, api.SGuard, api.SCase, api.SStep, api.DParam, api.DGhostParam, api.DOut, api.DTypeParam, api.DField, api.DGhostField, api.DCons, api.DMark, api.DResult, api.MImport, api.MExport, api.MName, api.MRefines},
	}
	for op := api.EInt; op <= api.EMatch; op++ {
		lists[Expression] = append(lists[Expression], op)
	}
	seen := 0
	for class, ops := range lists {
		for _, op := range ops {
			seen++
			if c, e := Class(op); c != class || e != api.OK {
				t.Errorf("Class(%d): %d, %d, want %d", op, c, e, class)
			}
		}
	}
	if seen != api.Ops {
		t.Errorf("%d Ops", seen)
	}
	for _, op := range []int{-1, api.Ops, 1 << 40, -1 << 40} {
		if c, e := Class(op); c != 0 || e != api.ErrKind {
			t.Errorf("Class(%d): %d, %d", op, c, e)
		}
	}
}

// The Texts that an Op may have, and those that it may not have.
type texts struct {
	ops       []int
	good, bad []string
}

func textTable() []texts {
	long := strings.Repeat("a", 24)
	common := []string{"1", "_", "a b", " a", "é", "a\xff", "if", "bv1", "bv64", "a::b", "A::", "::a", "A::B::c", "A:b", long + "a", "Z" + long, "A::" + long + "a", "Z" + long + "::b"}
	lower := append(common, "", "X", "A::b", "A::B", "a-")
	upper := append(common, "", "x", "A::b", "A::B", "A-")
	return []texts{
		{[]int{api.TBool, api.TSeq, api.ENot, api.EAdd, api.EForall, api.PWild, api.PLit, api.SBlock, api.SWhile, api.SLhs, api.CRequires, api.DResult, api.MExport, api.MProgram}, []string{""}, []string{"x", " ", "0"}},
		{[]int{api.TBits}, []string{"1", "9", "10", "64"}, []string{"", "0", "65", "01", "100", "-1", "8 ", "x"}},
		{[]int{api.EInt}, []string{"0", "1", "900", strings.Repeat("9", 120)}, []string{"", "-1", "00", "01", "1.0", "x", strings.Repeat("9", 121)}},
		{[]int{api.EReal}, []string{"0.0", "0.5", "10.25", "1.01", "1." + strings.Repeat("0", 37) + "1"}, []string{"", "1", "1.", ".5", "00.5", "01.5", "1.50", "1.00", "-1.5", "1.5.2", "1/2", "1.-5", strings.Repeat("0", 2) + ".1", "1." + strings.Repeat("0", 38) + "1"}},
		{[]int{api.EBool}, []string{"true", "false"}, []string{"", "True", "0", "truefalse"}},
		{[]int{api.ELet, api.EField, api.QVar, api.PVar, api.SVar, api.SGhostVar, api.SChoose, api.SNew, api.SNewArray, api.DParam, api.DGhostParam, api.DOut, api.DField, api.DGhostField}, []string{"x", "aB_9", "bv0", "bv65", "bv01", "iff", long}, lower},
		{[]int{api.EVar, api.ECall, api.SCall, api.SReveal, api.DConst, api.DFunction, api.DMethod}, []string{"x", "A::x", "bv65", long, strings.ToUpper(long) + "::" + long}, append(common, "", "X", "A::X", "A::if")},
		{[]int{api.TName, api.ECons, api.EIs, api.PCons, api.DCons, api.DDatatype, api.DSubset, api.DClass}, []string{"X", "A::X", "X_1", strings.ToUpper(long)}, append(common, "", "x", "A::x", "A::if")},
		{[]int{api.DTypeParam, api.MImport, api.MRefines}, []string{"X", "Xy_1"}, upper},
		{[]int{api.MModule}, []string{"", "X"}, append(upper[:0:0], "x", "A::B", "if")},
		{[]int{api.SAssert}, []string{"", "x"}, []string{"X", "A::x", "if", "1"}},
		{[]int{api.SStep}, []string{"", "==", "==>", "<=", "<"}, []string{">", "!=", "=", " ==", "<==>"}},
		{[]int{api.DMark}, []string{"ghost", "opaque", "hidden", "least", "greatest", "lemma", "fuel 0", "fuel 9"}, []string{"", "fuel", "fuel ", "fuel 10", "fuel  1", "fuel1", "fuel x", "Ghost", "x"}},
		{[]int{api.MName}, []string{"x", "X", "+x", "+X"}, []string{"", "+", "++x", "A::x", "+A::x", "-x", "if", "+if", "+ x"}},
	}
}

// TestTexts is for P2.1: the Texts of all Ops.
func TestTexts(t *testing.T) {
	for _, row := range textTable() {
		for _, op := range row.ops {
			tree := smallTree(op)
			root := len(tree) - 1
			for _, text := range row.good {
				tree[root].Text = text
				if at, e := Check(tree); at != 0 || e != api.OK {
					t.Errorf("Check of Op %d with %q: %d, %d", op, text, at, e)
				}
			}
			for _, text := range row.bad {
				tree[root].Text = text
				if at, e := Check(tree); at != root || e != api.ErrName {
					t.Errorf("Check of Op %d with %q: %d, %d, want ErrName at %d", op, text, at, e, root)
				}
			}
		}
	}
}

// TestNameBytes is for P2.1: which bytes begin a name, and which go on.
func TestNameBytes(t *testing.T) {
	const lower, upper, others = "abcdefghijklmnopqrstuvwxyz", "ABCDEFGHIJKLMNOPQRSTUVWXYZ", "0123456789_"
	for c := range 256 {
		one := string([]byte{byte(c)})
		for _, x := range []struct {
			op   int
			text string
			want bool
		}{
			{api.EVar, one, strings.Contains(lower, one)}, {api.TName, one, strings.Contains(upper, one)}, {api.EVar, "q" + one, strings.Contains(lower+upper+others, one)}, {api.TName, one + "::Q", strings.Contains(upper, one)},
			{api.EInt, one, strings.Contains(others[:10], one)}, {api.EInt, "1" + one, strings.Contains(others[:10], one)}, {api.EReal, "1." + one, strings.Contains(others[:10], one)},
		} {
			if _, e := Check(raw(x.op, x.text)); (e == api.OK) != x.want || !x.want && e != api.ErrName {
				t.Errorf("Check of Op %d with %q: %d", x.op, x.text, e)
			}
		}
	}
	for _, keyword := range strings.Fields("array as assert assume bool by calc call case class const datatype decreases else ensures exists export false forall fresh function fuel ghost greatest hidden if import in int invariant least lemma map match method modifies module multiset new old opaque print reads real refines requires return returns reveal seq set then true type var while witness bv1 bv9 bv10 bv32 bv64") {
		if _, e := Check(raw(api.EVar, keyword)); e != api.ErrName {
			t.Errorf("Check of a variable %s: %d", keyword, e)
		}
	}
}

// TestEmptyTexts checks that all Ops of the form "empty" have an empty Text. (P2.1)
func TestEmptyTexts(t *testing.T) {
	named := map[int]bool{}
	for _, row := range textTable()[1:] {
		for _, op := range row.ops {
			named[op] = true
		}
	}
	for op := range api.Ops {
		tree := smallTree(op)
		if at, e := Check(tree); at != 0 || e != api.OK {
			t.Errorf("Check of Op %d: %d, %d", op, at, e)
		}
		if tree[len(tree)-1].Text = "$"; named[op] == (smalls[op].text == "") && op != api.MModule && op != api.SAssert && op != api.SStep {
			t.Errorf("Op %d is in the wrong list", op)
		}
		if at, e := Check(tree); at != len(tree)-1 || e != api.ErrName {
			t.Errorf("Check of Op %d with the Text $: %d, %d", op, at, e)
		}
	}
}

// kidsCase is a node with the Ops of its children, and the error of these.
type kidsCase struct {
	op   int
	kids []int
	want api.Errno
}

func fixedCases() []kidsCase {
	ok, shape, form := api.OK, api.ErrShape, api.ErrForm
	e, ty, b := api.EVar, api.TInt, api.SBlock
	return []kidsCase{
		{api.TInt, []int{ty}, shape}, {api.TBits, []int{e}, shape}, {api.EVar, []int{e}, shape}, {api.PVar, []int{e}, shape}, {api.SReturn, []int{e}, shape}, {api.DMark, []int{e}, shape}, {api.MImport, []int{e}, shape},
		{api.TSeq, nil, shape}, {api.TSeq, []int{ty, ty}, shape}, {api.TSeq, []int{e}, form}, {api.TMap, []int{ty}, shape}, {api.TMap, []int{e}, shape}, {api.TMap, []int{ty, e}, form}, {api.TMap, []int{e, e, e}, shape},
		{api.ENot, []int{ty}, form}, {api.ENot, nil, shape}, {api.EAdd, []int{e}, shape}, {api.EShr, []int{e, e, e}, shape}, {api.EIn, []int{ty, e}, form}, {api.EAs, []int{e, ty}, ok}, {api.EAs, []int{ty, e}, form}, {api.EAs, []int{ty, ty}, form}, {api.EAs, []int{e, e}, form}, {api.EAs, []int{ty}, shape},
		{api.EIf, []int{e, e}, shape}, {api.EIf, []int{e, e, b}, form}, {api.ELet, []int{e, e, e}, shape}, {api.ELet, []int{e, api.ECase}, form}, {api.EField, []int{api.PVar}, form}, {api.ESlice, []int{e, e}, shape}, {api.EUpdate, []int{e, e, ty}, form},
		{api.ESetOf, []int{api.QVar, e, e}, ok}, {api.ESetOf, []int{api.QVar, e}, shape}, {api.ESetOf, []int{api.QVar, api.QVar, e}, form}, {api.ESetOf, []int{api.QVar, api.QTrigger, e, e}, shape}, {api.ECase, []int{e, e}, form}, {api.ECase, []int{api.PVar, api.PVar}, form}, {api.ECase, []int{api.PVar}, shape},
		{api.QVar, []int{e}, form}, {api.PLit, []int{api.EInt}, ok}, {api.PLit, []int{api.EBool}, ok}, {api.PLit, []int{api.ENeg}, form}, {api.PLit, []int{api.EReal}, form}, {api.PLit, []int{e}, form}, {api.PLit, nil, shape},
		{api.SAssign, []int{api.EField, e}, ok}, {api.SAssign, []int{api.EIndex, e}, ok}, {api.SAssign, []int{api.EInt, e}, form}, {api.SAssign, []int{api.EUpdate, e}, form}, {api.SAssign, []int{e}, shape}, {api.SAssign, []int{api.EInt}, shape}, {api.SHavoc, []int{api.ECall}, form}, {api.SHavoc, []int{api.EIndex}, ok},
		{api.SChoose, []int{b}, form}, {api.SNewArray, []int{ty, e}, shape}, {api.SNewArray, []int{e, e, e}, form}, {api.SGuard, []int{e, api.SIf}, form}, {api.SGuard, []int{b, e}, form}, {api.SCase, []int{api.PVar, e}, form}, {api.SCase, []int{api.PWild, b}, ok}, {api.SPrint, nil, shape},
		{api.CRequires, []int{ty}, form}, {api.CModifies, []int{e, e}, shape}, {api.DParam, []int{e}, form}, {api.DResult, nil, shape}, {api.DSubset, []int{api.DParam, e, e}, ok}, {api.DSubset, []int{api.DGhostParam, e, e}, form}, {api.DSubset, []int{api.DParam, e}, shape}, {api.DConst, []int{ty, ty}, form},
	}
}

func expressionCases() []kidsCase {
	ok, shape, form := api.OK, api.ErrShape, api.ErrForm
	e, ty := api.EVar, api.TInt
	q, tr := api.QVar, api.QTrigger
	return []kidsCase{
		{api.TName, []int{ty, api.TSeq}, ok}, {api.TName, []int{ty, e}, form}, {api.ECall, []int{e, e, e}, ok}, {api.ECall, []int{e, ty}, form}, {api.ECons, []int{api.QVar}, form}, {api.ESeq, nil, ok}, {api.ESeq, []int{e, api.ECase}, form},
		{api.EMap, nil, ok}, {api.EMap, []int{e, e}, ok}, {api.EMap, []int{e}, shape}, {api.EMap, []int{e, e, e}, shape}, {api.EMap, []int{e, ty}, form},
		{api.EForall, []int{q, e}, ok}, {api.EForall, []int{q, q, q, q, e}, ok}, {api.EForall, []int{q, q, q, q, q, e}, shape}, {api.EForall, []int{e}, shape}, {api.EForall, []int{q}, shape}, {api.EForall, nil, shape}, {api.EForall, []int{q, tr, tr, tr, tr, e}, ok},
		{api.EForall, []int{q, tr, tr, tr, tr, tr, e}, shape}, {api.EForall, []int{q, tr}, shape}, {api.EForall, []int{tr, e}, shape}, {api.EForall, []int{q, e, e}, shape}, {api.EForall, []int{q, e, tr}, form}, {api.EForall, []int{q, tr, q, e}, form}, {api.EForall, []int{q, q, q, q, tr, q, e}, shape}, {api.EForall, []int{q, ty, e}, form}, {api.EExists, []int{q, tr, e}, ok}, {api.EExists, []int{e, q}, form},
		{api.EMatch, []int{e}, shape}, {api.EMatch, []int{e, api.ECase, api.ECase}, ok}, {api.EMatch, []int{api.ECase}, shape}, {api.EMatch, []int{e, e, api.ECase}, shape}, {api.EMatch, []int{e, api.SCase}, form}, {api.EMatch, []int{api.ECase, e}, form}, {api.EMatch, []int{e, api.ECase, e}, shape}, {api.EMatch, nil, shape},
		{tr, nil, shape}, {tr, []int{e, e}, ok}, {tr, []int{ty}, form}, {api.PCons, []int{api.PVar, api.PLit}, ok}, {api.PCons, []int{e}, form},
	}
}

func statementCases() []kidsCase {
	ok, shape, form := api.OK, api.ErrShape, api.ErrForm
	e, ty, b := api.EVar, api.TInt, api.SBlock
	inv, dec, mod := api.CInvariant, api.CDecreases, api.CModifies
	return []kidsCase{
		{b, []int{api.SReturn, b, api.SIf}, ok}, {b, []int{api.SGuard}, form}, {b, []int{e}, form}, {b, []int{api.SStep}, form}, {api.SVar, []int{ty, e}, ok}, {api.SVar, []int{e}, shape}, {api.SVar, []int{ty, e, e}, shape}, {api.SVar, []int{ty, ty}, shape}, {api.SVar, []int{ty, b}, form}, {api.SVar, []int{e, ty}, form}, {api.SGhostVar, nil, shape},
		{api.SCall, nil, shape}, {api.SCall, []int{e}, shape}, {api.SCall, []int{api.SLhs, e, e}, ok}, {api.SCall, []int{api.SLhs, api.SLhs}, shape}, {api.SCall, []int{api.SLhs, ty}, form}, {api.SCall, []int{e, api.SLhs}, form}, {api.SLhs, []int{e, e}, ok}, {api.SLhs, []int{api.EInt}, form}, {api.SLhs, []int{api.EField}, form},
		{api.SNew, []int{api.TName, e, e}, ok}, {api.SNew, []int{ty}, form}, {api.SNew, []int{e}, shape}, {api.SNew, nil, shape}, {api.SNew, []int{api.TName, api.TName}, shape}, {api.SNew, []int{api.TName, ty}, form},
		{api.SIf, []int{e, b, b}, ok}, {api.SIf, []int{e, b, api.SIf}, ok}, {api.SIf, []int{e}, shape}, {api.SIf, []int{b}, shape}, {api.SIf, []int{e, api.SIf}, shape}, {api.SIf, []int{e, b, b, b}, shape}, {api.SIf, []int{e, b, e}, shape}, {api.SIf, []int{e, b, api.SWhile}, form}, {api.SIf, []int{e, api.SIf, b}, shape}, {api.SIf, []int{ty, b}, form},
		{api.SAlt, nil, shape}, {api.SAlt, []int{api.SGuard, api.SGuard}, ok}, {api.SAlt, []int{api.SCase}, form}, {api.SWhile, []int{e, inv, inv, dec, mod, mod, b}, ok}, {api.SWhile, []int{e}, shape}, {api.SWhile, []int{e, dec, dec, b}, shape}, {api.SWhile, []int{e, dec, inv, b}, form}, {api.SWhile, []int{e, mod, dec, b}, form}, {api.SWhile, []int{e, b, b}, shape}, {api.SWhile, []int{e, b, inv}, form}, {api.SWhile, []int{e, api.CReads, b}, form}, {api.SWhile, []int{inv, b}, shape}, {api.SWhile, []int{e, e, b}, shape},
		{api.SMatch, []int{e, api.SCase, api.SCase}, ok}, {api.SMatch, []int{e}, shape}, {api.SMatch, []int{e, api.ECase}, form}, {api.SAssert, []int{e, b}, ok}, {api.SAssert, []int{b}, shape}, {api.SAssert, []int{e, b, b}, shape}, {api.SAssert, []int{e, api.SIf}, form},
		{api.SCalc, nil, shape}, {api.SCalc, []int{e}, form}, {api.SCalc, []int{api.SStep, api.SStep}, form}, {api.SStep, []int{e, b}, ok}, {api.SStep, []int{b}, shape}, {api.SStep, nil, shape}, {api.SStep, []int{e, e}, shape},
		{api.SForall, []int{api.QVar, api.QVar, e, api.CEnsures, b}, ok}, {api.SForall, []int{e, api.CEnsures, b}, shape}, {api.SForall, []int{api.QVar, e, b}, shape}, {api.SForall, []int{api.QVar, api.QVar, api.QVar, api.QVar, api.QVar, e, api.CEnsures, b}, shape}, {api.SForall, []int{api.QVar, e, api.CEnsures, api.CEnsures, b}, shape}, {api.SForall, []int{api.QVar, e, api.CRequires, b}, form}, {api.SForall, []int{api.QVar, api.QTrigger, e, api.CEnsures, b}, form},
	}
}

func declarationCases() []kidsCase {
	ok, shape, form := api.OK, api.ErrShape, api.ErrForm
	e, ty, b := api.EVar, api.TInt, api.SBlock
	mark, tp, par, gh, res := api.DMark, api.DTypeParam, api.DParam, api.DGhostParam, api.DResult
	req, ens, rea, mod, dec := api.CRequires, api.CEnsures, api.CReads, api.CModifies, api.CDecreases
	return []kidsCase{
		{dec, []int{e, e}, ok}, {dec, nil, shape}, {dec, []int{ty}, form}, {api.DCons, []int{api.DField}, ok}, {api.DCons, []int{api.DGhostField}, form}, {api.DCons, []int{par}, form}, {api.DDatatype, []int{tp, tp, api.DCons, api.DCons}, ok}, {api.DDatatype, nil, shape}, {api.DDatatype, []int{tp}, shape}, {api.DDatatype, []int{api.DCons, tp}, form},
		{api.DClass, []int{api.DField, api.DGhostField, api.DField}, ok}, {api.DClass, []int{par}, form}, {api.DFunction, []int{mark, mark, tp, par, gh, par, res, req, req, rea, ens, dec, e}, ok}, {api.DFunction, nil, shape}, {api.DFunction, []int{par}, shape}, {api.DFunction, []int{res, e, e}, shape}, {api.DFunction, []int{res, dec, dec}, shape}, {api.DFunction, []int{res, rea, req}, form}, {api.DFunction, []int{res, ens, rea}, form},
		{api.DFunction, []int{tp, mark, res}, form}, {api.DFunction, []int{res, par}, form}, {api.DFunction, []int{res, res}, shape}, {api.DFunction, []int{res, mod}, form}, {api.DFunction, []int{res, b}, form}, {api.DFunction, []int{res, e, ens}, form}, {api.DFunction, []int{res, e, dec}, form}, {api.DFunction, []int{api.DOut, res}, form}, {api.DFunction, []int{e}, shape},
		{api.DMethod, []int{mark, tp, par, gh, api.DOut, api.DOut, req, mod, ens, dec, b}, ok}, {api.DMethod, []int{b}, ok}, {api.DMethod, []int{b, b}, shape}, {api.DMethod, []int{e}, form}, {api.DMethod, []int{ens, mod}, form}, {api.DMethod, []int{mod, req}, form}, {api.DMethod, []int{api.DOut, par}, form}, {api.DMethod, []int{rea}, form}, {api.DMethod, []int{res}, form}, {api.DMethod, []int{dec, dec}, shape}, {api.DMethod, []int{b, api.SReturn}, form},
		{api.MExport, nil, ok}, {api.MExport, []int{api.MName, api.MName}, ok}, {api.MExport, []int{e}, form}, {api.MModule, []int{api.MRefines, api.MImport, api.MImport, api.MExport, api.DConst, api.DMethod, api.DClass}, ok}, {api.MModule, []int{api.MRefines, api.MRefines}, shape}, {api.MModule, []int{api.MExport, api.MExport}, shape}, {api.MModule, []int{api.MExport, api.MImport}, form},
		{api.MModule, []int{api.DConst, api.MExport}, form}, {api.MModule, []int{api.MImport, api.MRefines}, form}, {api.MModule, []int{par}, form}, {api.MModule, []int{api.MModule}, form}, {api.MProgram, nil, shape}, {api.MProgram, []int{api.MModule, api.MModule}, ok}, {api.MProgram, []int{api.DConst}, form}, {api.MProgram, []int{api.MProgram}, form},
	}
}

// TestShapes is for P2.1: the children of all Ops, by Check and by Make.
func TestShapes(t *testing.T) {
	for _, cases := range [][]kidsCase{fixedCases(), expressionCases(), statementCases(), declarationCases()} {
		for _, c := range cases {
			var kids []api.Tree
			for _, op := range c.kids {
				kids = append(kids, smallTree(op))
			}
			tree := raw(c.op, smalls[c.op].text, kids...)
			at := 0
			if c.want != api.OK {
				at = len(tree) - 1
			}
			if i, e := Check(tree); i != at || e != c.want {
				t.Errorf("Check of Op %d above %v: %d, %d, want %d, %d", c.op, c.kids, i, e, at, c.want)
			}
			if out, e := Make(c.op, smalls[c.op].text, kids); e != c.want || e == api.OK && !Same(out, tree) || e != api.OK && out != nil {
				t.Errorf("Make of Op %d above %v: %v, %d, want %d", c.op, c.kids, out, e, c.want)
			}
		}
	}
}

// TestLiteralPattern is for P2.1: literals of patterns.
func TestLiteralPattern(t *testing.T) {
	for want, literal := range map[api.Errno]api.Tree{
		api.OK:      raw(api.ENeg, "", raw(api.EInt, "3")),
		api.ErrForm: raw(api.ENeg, "", raw(api.ENeg, "", raw(api.EInt, "3"))),
	} {
		if _, e := Check(raw(api.PLit, "", literal)); e != want {
			t.Errorf("Check of a literal: %d, want %d", e, want)
		}
	}
}

// TestCalc is for P2.1: the relations of an SCalc.
func TestCalc(t *testing.T) {
	a, b := raw(api.EVar, "a"), raw(api.SBlock, "")
	step := func(relation string, kids ...api.Tree) api.Tree { return raw(api.SStep, relation, kids...) }
	for i, c := range []struct {
		steps []api.Tree
		want  api.Errno
	}{
		{[]api.Tree{step("", a)}, api.OK}, {[]api.Tree{step("==", a), step("", a)}, api.OK}, {[]api.Tree{step("<=", a, b), step("<", a), step("", a)}, api.OK},
		{[]api.Tree{step("==", a)}, api.ErrForm}, {[]api.Tree{step("", a), step("", a)}, api.ErrForm}, {[]api.Tree{step("", a, b)}, api.ErrForm}, {[]api.Tree{step("==", a), step("", a, b)}, api.ErrForm}, {[]api.Tree{step("==", a), step("<", a)}, api.ErrForm},
	} {
		tree := raw(api.SCalc, "", c.steps...)
		at, e := Check(tree)
		if e != c.want || e != api.OK && at != len(tree)-1 {
			t.Errorf("%d: %d, %d, want %d", i, at, e, c.want)
		}
	}
}

// TestOrder is for P2.1: the order of children and of errors.
func TestOrder(t *testing.T) {
	v := api.Node{Op: api.EVar, Text: "x"}
	and := func(kids ...int) api.Node { return api.Node{Op: api.EAnd, Kids: kids} }
	not := func(kid int) api.Node { return api.Node{Op: api.ENot, Kids: []int{kid}} }
	for i, c := range []struct {
		t    api.Tree
		at   int
		want api.Errno
	}{
		{api.Tree{v, v, and(0, 1)}, 0, api.OK}, {api.Tree{v, not(0), v, and(1, 2)}, 0, api.OK},
		{api.Tree{v, v, and(1, 0)}, 2, api.ErrOrder}, {api.Tree{v, v, and(1, 1)}, 2, api.ErrOrder}, {api.Tree{v, and(-1, 0)}, 1, api.ErrOrder}, {api.Tree{not(-1)}, 0, api.ErrOrder}, {api.Tree{not(0)}, 0, api.ErrOrder}, {api.Tree{not(1)}, 0, api.ErrOrder},
		{api.Tree{v, not(1)}, 1, api.ErrOrder}, {api.Tree{v, v, not(0)}, 2, api.ErrOrder}, {api.Tree{v, not(0), v, and(0, 2)}, 3, api.ErrOrder}, {api.Tree{v, not(0), v, and(2, 2)}, 3, api.ErrOrder}, {api.Tree{v, not(0), not(0)}, 2, api.ErrOrder}, {api.Tree{v, not(1 << 40)}, 1, api.ErrOrder},
		{api.Tree{v, v, v, and(1, 2)}, 3, api.ErrForm}, {api.Tree{v, v}, 1, api.ErrForm}, {api.Tree{v, v, not(1)}, 2, api.ErrForm}, {api.Tree{v, and(0)}, 1, api.ErrShape}, {api.Tree{v, v, v, and(0, 1, 2)}, 3, api.ErrShape},
		{api.Tree{v, v, {Op: api.EAnd, Text: "x", Kids: []int{7}}}, 2, api.ErrName}, {api.Tree{v, {Op: api.EAnd, Kids: []int{7}}}, 1, api.ErrOrder}, {api.Tree{v, {Op: api.Ops, Text: "x", Kids: []int{7}}}, 1, api.ErrKind}, {api.Tree{{Op: -1}, {Op: -2}}, 0, api.ErrKind},
		{api.Tree{{Op: api.EVar, Text: "x", At: -1}}, 0, api.ErrRange}, {api.Tree{v, {Op: api.EAnd, Kids: []int{0}, At: -1}}, 1, api.ErrShape}, {api.Tree{{Op: api.TInt, At: -1}, {Op: api.ENot, Kids: []int{0}}}, 0, api.ErrRange}, {api.Tree{{Op: api.TInt}, {Op: api.ENot, Kids: []int{0}, At: -1}}, 1, api.ErrForm},
		{nil, 0, api.ErrEmpty}, {api.Tree{}, 0, api.ErrEmpty},
	} {
		if at, e := Check(c.t); at != c.at || e != c.want {
			t.Errorf("%d: %d, %d, want %d, %d", i, at, e, c.at, c.want)
		}
	}
}

// tower returns a tree of a depth.
func tower(depth int) api.Tree {
	out := api.Tree{{Op: api.EVar, Text: "x"}}
	for len(out) < depth {
		out = append(out, api.Node{Op: api.ENot, Kids: []int{len(out) - 1}})
	}
	return out
}

// wide returns a tree with a number of nodes, of the depth 2.
func wide(size int) api.Tree {
	var out api.Tree
	root := api.Node{Op: api.ESeq}
	for len(out) < size-1 {
		out = append(out, api.Node{Op: api.EVar, Text: "x"})
		root.Kids = append(root.Kids, len(out)-1)
	}
	return append(out, root)
}

// TestLimits is for P2.1: sizes and depths.
func TestLimits(t *testing.T) {
	for _, c := range []struct {
		t         api.Tree
		at, depth int
		want      api.Errno
	}{
		{tower(1), 0, 1, api.OK}, {tower(60), 0, 60, api.OK}, {tower(61), 60, 0, api.ErrDeep}, {tower(70), 60, 0, api.ErrDeep}, {wide(4000), 0, 2, api.OK}, {wide(4001), 0, 0, api.ErrMany}, {make(api.Tree, 4001), 0, 0, api.ErrMany}, {wide(1), 0, 1, api.OK}, {nil, 0, 0, api.ErrEmpty},
	} {
		if at, e := Check(c.t); at != c.at || e != c.want {
			t.Errorf("Check of %d nodes: %d, %d, want %d, %d", len(c.t), at, e, c.at, c.want)
		}
		if depth, e := Depth(c.t); depth != c.depth || e != c.want {
			t.Errorf("Depth of %d nodes: %d, %d, want %d, %d", len(c.t), depth, e, c.depth, c.want)
		}
	}
}

// TestMake is for P2.1: the errors of Make, and the offset of the new node.
func TestMake(t *testing.T) {
	x, bad, deep := raw(api.EVar, "x"), raw(api.EVar, "X"), tower(60)
	x[0].At = 5
	many := make([]api.Tree, 401)
	for i := range many {
		many[i] = x
	}
	for i, c := range []struct {
		op   int
		text string
		kids []api.Tree
		want api.Errno
	}{
		{api.ESeq, "", many, api.ErrMany}, {-1, "", make([]api.Tree, 401), api.ErrMany}, {api.ESeq, "", many[1:], api.OK}, {-1, "", []api.Tree{x, bad, nil}, api.ErrName}, {-1, "", []api.Tree{x, nil, bad}, api.ErrEmpty}, {-1, "", []api.Tree{x}, api.ErrKind}, {api.Ops, "", nil, api.ErrKind},
		{api.ENot, "!", []api.Tree{x}, api.ErrName}, {api.ENot, "", []api.Tree{deep}, api.ErrDeep}, {api.ESeq, "", []api.Tree{wide(2000), wide(1999)}, api.OK}, {api.ESeq, "", []api.Tree{wide(2000), wide(2000)}, api.ErrMany}, {-1, "", []api.Tree{wide(2000), wide(2000)}, api.ErrMany}, {api.ESeq, "", []api.Tree{wide(4000), wide(4001)}, api.ErrMany},
	} {
		if out, e := Make(c.op, c.text, c.kids); e != c.want || e != api.OK && out != nil {
			t.Errorf("%d: %d nodes, %d, want %d", i, len(out), e, c.want)
		}
	}
	out := build(t, api.EAdd, "", x, raw(api.EInt, "1"))
	if out[2].At != 5 || out[0].At != 5 || out[1].At != 0 {
		t.Errorf("offsets: %v", out)
	}
	if out := build(t, api.EVar, "x"); out[0].At != 0 || len(out) != 1 {
		t.Errorf("a leaf: %v", out)
	}
	out[0].Text = "y"
	if x[0].Text != "x" {
		t.Error("Make shares memory with its argument")
	}
}

// TestSame is for P2.1: any lists of nodes.
func TestSame(t *testing.T) {
	x := api.Tree{{Op: api.EVar, Text: "x"}, {Op: api.ENot, Kids: []int{0}}}
	for i, c := range []struct {
		a, b api.Tree
		want bool
	}{
		{x, x, true}, {x, api.Tree{{Op: api.EVar, Text: "x", At: 3}, {Op: api.ENot, Kids: []int{0}, At: -9}}, true}, {nil, api.Tree{}, true}, {x, x[:1], false}, {x, nil, false},
		{x[:1], api.Tree{{Op: api.EVar, Text: "y"}}, false}, {x[:1], api.Tree{{Op: api.ECall, Text: "x"}}, false}, {x[:1], api.Tree{{Op: api.EVar, Text: "x", Kids: []int{}}}, true}, {x[:1], api.Tree{{Op: api.EVar, Text: "x", Kids: []int{0}}}, false},
		{api.Tree{{Op: -5, Kids: []int{-1, 9}}}, api.Tree{{Op: -5, Kids: []int{-1, 9}}}, true}, {api.Tree{{Op: -5, Kids: []int{-1, 9}}}, api.Tree{{Op: -5, Kids: []int{9, -1}}}, false},
	} {
		if Same(c.a, c.b) != c.want || Same(c.b, c.a) != c.want {
			t.Errorf("%d: not %v", i, c.want)
		}
	}
}

// TestAnyNodes checks random tables of nodes: nothing panics, and what is a syntax tree goes through all functions. (P1 and the errors of the arguments of all functions)
func TestAnyNodes(t *testing.T) {
	trees(t, 3000, func(m maker, tree api.Tree) {
		for range 1 + m.Intn(3) {
			n := &tree[m.Intn(len(tree))]
			switch m.Intn(4) {
			case 0:
				n.Op = m.Intn(api.Ops+4) - 2
			case 1:
				n.Text = m.pick("", "x", "X", "1", "==", "ghost", "A::b", "A::B", "true")
			case 2:
				n.Kids = append(n.Kids, m.Intn(len(tree)+2)-1)
			case 3:
				n.At = m.Intn(9) - 1
			}
		}
		at, e := Check(tree)
		if e != api.OK && (at < 0 || at >= len(tree)) || e == api.OK && at != 0 {
			t.Fatalf("Check: %d, %d", at, e)
		}
		for _, f := range []func(api.Tree) api.Errno{
			func(x api.Tree) api.Errno { _, e := Free(x); return e },
			func(x api.Tree) api.Errno { _, e := Globals(x); return e },
			func(x api.Tree) api.Errno { _, e := Print(x); return e },
			func(x api.Tree) api.Errno { _, e := Depth(x); return e },
			func(x api.Tree) api.Errno { _, e := Sub(x, 0); return e },
			func(x api.Tree) api.Errno { _, e := Kids(x, len(x)-1); return e },
			func(x api.Tree) api.Errno { _, e := Parent(x, 0); return e },
			func(x api.Tree) api.Errno { _, e := Bound(x, 0); return e },
			func(x api.Tree) api.Errno { _, e := Rename(x, "x", "v_77"); return e },
			func(x api.Tree) api.Errno { _, e := Replace(x, len(x)-1, raw(api.EVar, "q")); return e },
		} {
			if got := f(tree); got != e {
				t.Fatalf("error %d, but Check: %d, %v", got, e, tree)
			}
		}
		if out, got := Subst(tree, "x", tree); e != api.OK && (got != e || out != nil) {
			t.Fatalf("Subst: %d, but Check: %d", got, e)
		}
	})
}
