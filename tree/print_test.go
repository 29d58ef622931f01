package tree

import (
	"strings"
	"testing"

	"entail/api"
)

// x, y and z are variables; the other short names are those of variables_test.go.
func one(op int, kids ...api.Tree) api.Tree { return raw(op, "", kids...) }

// TestPrintTypes is for P2.4.
func TestPrintTypes(t *testing.T) {
	integer := one(api.TInt)
	for want, tree := range map[string]api.Tree{
		"bool": one(api.TBool), "int": integer, "real": one(api.TReal), "bv8": raw(api.TBits, "8"), "seq<int>": one(api.TSeq, integer), "set<set<int>>": one(api.TSet, one(api.TSet, integer)), "multiset<int>": one(api.TMulti, integer),
		"map<int, bool>": one(api.TMap, integer, one(api.TBool)), "array<T>": one(api.TArray, raw(api.TName, "T")), "M::List<int, T>": raw(api.TName, "M::List", integer, raw(api.TName, "T")),
	} {
		check(t, tree, want)
	}
}

// check compares the text of a tree with one that is given.
func check(t *testing.T, tree api.Tree, want string) {
	t.Helper()
	if s, e := Print(tree); s != want || e != api.OK {
		t.Errorf("Print: %q, %d, want %q", s, e, want)
	}
}

// TestPrintExpressions is for P2.4.
func TestPrintExpressions(t *testing.T) {
	x, y, z := v("x"), v("y"), v("z")
	three := raw(api.EInt, "3")
	for want, tree := range map[string]api.Tree{
		"3": three, "1.5": raw(api.EReal, "1.5"), "true": raw(api.EBool, "true"), "M::x": v("M::x"), "!x": one(api.ENot, x), "-3": one(api.ENeg, three), "#x": one(api.ECard, x), "--x": one(api.ENeg, one(api.ENeg, x)), "!-#x": one(api.ENot, one(api.ENeg, one(api.ECard, x))),
		"(x as seq<int>)": one(api.EAs, x, one(api.TSeq, one(api.TInt))), "if x then y else z": one(api.EIf, x, y, z), "var x := y; z": let("x", y, z), "f(x, y)": raw(api.ECall, "f", x, y), "M::f()": raw(api.ECall, "M::f"), "C(x, y)": raw(api.ECons, "C", x, y), "M::C": raw(api.ECons, "M::C"),
		"x.f": raw(api.EField, "f", x), "x.M::C?": raw(api.EIs, "M::C", x), "x[y]": one(api.EIndex, x, y), "x[y..z]": one(api.ESlice, x, y, z), "x[y := z]": one(api.EUpdate, x, y, z), "[x, y]": one(api.ESeq, x, y), "[]": one(api.ESeq), "{x}": one(api.ESet, x), "{}": one(api.ESet), "multiset{x, y}": one(api.EMulti, x, y), "multiset{}": one(api.EMulti),
		"map[]": one(api.EMap), "map[x := y, y := z]": one(api.EMap, x, y, y, z), "old(x)": one(api.EOld, x), "fresh(x)": one(api.EFresh, x), "forall x: int :: x": forall(q("x"), x), "exists x: int, y: int {x, y} {z} :: z": one(api.EExists, q("x"), q("y"), one(api.QTrigger, x, y), one(api.QTrigger, z), z),
		"set x: int | y :: z": one(api.ESetOf, q("x"), y, z), "match x { case P(x, y) => z case _ => y }": match(x, one(api.ECase, pair("x", "y"), z), one(api.ECase, one(api.PWild), y)),
		"P(x, y)": pair("x", "y"), "_": one(api.PWild), "M::Nil": raw(api.PCons, "M::Nil"), "-1": one(api.PLit, one(api.ENeg, raw(api.EInt, "1"))), "false": one(api.PLit, raw(api.EBool, "false")), "case x => y": one(api.ECase, raw(api.PVar, "x"), y), "x: int": q("x"), "{x, y}": one(api.QTrigger, x, y),
	} {
		check(t, tree, want)
	}
}

// TestPrintSigns is for P2.4.
func TestPrintSigns(t *testing.T) {
	for i, sign := range strings.Fields("+ - * / % && || ==> <==> == != < <= in & | ^ << >>") {
		check(t, one(api.EAdd+i, v("x"), v("y")), "x "+sign+" y")
	}
}

// TestPrintLevels puts each binary operation into each position of each other one. (P2.4)
func TestPrintLevels(t *testing.T) {
	levels := [][]int{{api.EIff}, {api.EImp}, {api.EOr}, {api.EAnd}, {api.EEq, api.ENe, api.ELt, api.ELe, api.EIn}, {api.EBitAnd, api.EBitOr, api.EBitXor}, {api.EShl, api.EShr}, {api.EAdd, api.ESub}, {api.EMul, api.EDiv, api.EMod}}
	signs := strings.Fields("+ - * / % && || ==> <==> == != < <= in & | ^ << >>")
	x, y, z := v("x"), v("y"), v("z")
	enclosed := func(op int, on bool) string {
		if text := "x " + signs[op-api.EAdd] + " y"; !on {
			return text
		}
		return "(x " + signs[op-api.EAdd] + " y)"
	}
	for i, outer := range levels {
		for j, inner := range levels {
			for _, a := range outer {
				for _, b := range inner {
					left := j < i || j == i && (i == 1 || i == 4)
					right := j < i || j == i && i != 1
					check(t, one(a, one(b, x, y), z), enclosed(b, left)+" "+signs[a-api.EAdd]+" z")
					check(t, one(a, z, one(b, x, y)), "z "+signs[a-api.EAdd]+" "+enclosed(b, right))
				}
			}
		}
	}
	for j := range levels {
		for _, b := range levels[j] {
			check(t, one(api.ENot, one(b, x, y)), "!"+enclosed(b, true))
			check(t, raw(api.EField, "f", one(b, x, y)), enclosed(b, true)+".f")
			check(t, one(api.EIndex, z, one(b, x, y)), "z["+enclosed(b, false)+"]")
			check(t, raw(api.ECall, "f", one(b, x, y)), "f("+enclosed(b, false)+")")
		}
	}
}

// TestPrintParentheses is for P2.4.
func TestPrintParentheses(t *testing.T) {
	x, y, z := v("x"), v("y"), v("z")
	widest := map[string]api.Tree{
		"if x then y else z": one(api.EIf, x, y, z), "var x := y; z": let("x", y, z), "forall x: int :: y": forall(q("x"), y), "exists x: int :: y": one(api.EExists, q("x"), y), "set x: int | y :: z": one(api.ESetOf, q("x"), y, z), "match x { case _ => y }": match(x, one(api.ECase, one(api.PWild), y)),
	}
	for text, tree := range widest {
		check(t, add(tree, z), "("+text+") + z")
		check(t, add(z, tree), "z + ("+text+")")
		check(t, one(api.EIff, tree, z), "("+text+") <==> z")
		check(t, one(api.EImp, z, tree), "z ==> ("+text+")")
		check(t, one(api.ENeg, tree), "-("+text+")")
		check(t, raw(api.EIs, "C", tree), "("+text+").C?")
		check(t, one(api.EIndex, tree, tree), "("+text+")["+text+"]")
		check(t, one(api.EIf, tree, tree, tree), "if "+text+" then "+text+" else "+text)
		check(t, let("x", tree, tree), "var x := "+text+"; "+text)
		check(t, one(api.EAs, tree, one(api.TInt)), "("+text+" as int)")
		check(t, one(api.ESet, tree), "{"+text+"}")
		check(t, one(api.EMap, tree, tree), "map["+text+" := "+text+"]")
		check(t, match(tree, one(api.ECase, one(api.PWild), tree)), "match "+text+" { case _ => "+text+" }")
		check(t, forall(q("x"), one(api.QTrigger, tree), tree), "forall x: int {"+text+"} :: "+text)
	}
	check(t, one(api.EMul, one(api.ENeg, x), one(api.ECard, y)), "-x * #y")
	check(t, one(api.ENeg, raw(api.EField, "f", x)), "-x.f")
	check(t, raw(api.EField, "f", one(api.ENeg, x)), "(-x).f")
	check(t, one(api.ESlice, one(api.ENot, x), y, z), "(!x)[y..z]")
	check(t, one(api.EUpdate, one(api.ECard, x), y, z), "(#x)[y := z]")
	check(t, raw(api.EField, "f", one(api.EAs, x, one(api.TInt))), "(x as int).f")
	check(t, one(api.EIndex, one(api.EIndex, x, y), one(api.ESet)), "x[y][{}]")
	check(t, raw(api.EField, "f", raw(api.EInt, "1")), "1.f")
}

// TestPrintStatements is for P2.4.
func TestPrintStatements(t *testing.T) {
	x, y, z := v("x"), v("y"), v("z")
	empty, full := block(), block(set("x", y), one(api.SReturn))
	braces := one(api.EEq, one(api.ESet, x), y)
	target := one(api.EIndex, one(api.ESet, x), y)
	integer := one(api.TInt)
	for want, tree := range map[string]api.Tree{
		"{\n}": empty, "{\n  x := y;\n  return;\n}": full, "{\n  {\n    {\n    }\n  }\n}": block(block(empty)), "var x: int;": local("x"), "var x: int := y;": local("x", y), "ghost var x: int;": raw(api.SGhostVar, "x", integer), "ghost var x: int := y;": raw(api.SGhostVar, "x", integer, y),
		"x.f := y;": one(api.SAssign, raw(api.EField, "f", x), y), "({x}[y]) := {z};": one(api.SAssign, target, one(api.ESet, z)), "({x}[y]) := *;": one(api.SHavoc, target), "x[y] := *;": one(api.SHavoc, one(api.EIndex, x, y)), "x :| y < x;": raw(api.SChoose, "x", less(y, x)), "call m();": raw(api.SCall, "m", one(api.SLhs)),
		"x, y := call M::m(y, z);": raw(api.SCall, "M::m", one(api.SLhs, x, y), y, z), "x, y": one(api.SLhs, x, y), "": one(api.SLhs), "x := new M::C<int>(y, z);": raw(api.SNew, "x", raw(api.TName, "M::C", integer), y, z), "x := new C();": raw(api.SNew, "x", raw(api.TName, "C")), "x := new array<int>(y, z);": raw(api.SNewArray, "x", integer, y, z),
		"if x {\n}": one(api.SIf, x, empty), "if x {\n  x := y;\n  return;\n} else {\n}": one(api.SIf, x, full, empty), "if x {\n} else if y {\n} else {\n}": one(api.SIf, x, empty, one(api.SIf, y, empty, empty)), "if ({x} == y) {\n} else if ({x} == y) {\n}": one(api.SIf, braces, empty, one(api.SIf, braces, empty)),
		"if {\n  case x => {\n    x := y;\n    return;\n  }\n  case {x} == y => {\n  }\n}": one(api.SAlt, one(api.SGuard, x, full), one(api.SGuard, braces, empty)), "case x => {\n}": one(api.SGuard, x, empty), "while {x} == y\n{\n}": one(api.SWhile, braces, empty),
		"while x\n  invariant y\n  invariant z\n  decreases x, y\n  modifies z\n{\n  x := y;\n  return;\n}": one(api.SWhile, x, one(api.CInvariant, y), one(api.CInvariant, z), one(api.CDecreases, x, y), one(api.CModifies, z), full),
		"match x {\n  case P(x, y) => {\n    x := y;\n    return;\n  }\n  case _ => {\n  }\n}":              one(api.SMatch, x, one(api.SCase, pair("x", "y"), full), one(api.SCase, one(api.PWild), empty)), "case _ => {\n  x := y;\n  return;\n}": one(api.SCase, one(api.PWild), full),
		"assert x;": one(api.SAssert, x), "assert l: x;": raw(api.SAssert, "l", x), "assert x by {\n  x := y;\n  return;\n}": one(api.SAssert, x, full), "assert l: x by {\n}": raw(api.SAssert, "l", x, empty), "assume x;": one(api.SAssume, x), "print x;": one(api.SPrint, x), "reveal M::f;": raw(api.SReveal, "M::f"), "return;": one(api.SReturn),
		"calc {\n  x;\n}": one(api.SCalc, one(api.SStep, x)), "calc {\n  x;\n  == {\n    x := y;\n    return;\n  }\n  ({x} == y);\n  ==>\n  z;\n}": one(api.SCalc, raw(api.SStep, "==", x, full), raw(api.SStep, "==>", braces), one(api.SStep, z)),
		"x;\n<=": raw(api.SStep, "<=", x), "x;\n< {\n}": raw(api.SStep, "<", x, empty), "x;": one(api.SStep, x, full), "forall x: int, y: int | z\n  ensures x\n{\n  x := y;\n  return;\n}": one(api.SForall, q("x"), q("y"), z, one(api.CEnsures, x), full),
	} {
		check(t, tree, want)
	}
}

// TestPrintDeclarations is for P2.4.
func TestPrintDeclarations(t *testing.T) {
	x, y, z := v("x"), v("y"), v("z")
	tp := func(name string) api.Tree { return raw(api.DTypeParam, name) }
	mark := func(name string) api.Tree { return raw(api.DMark, name) }
	result := one(api.DResult, one(api.TInt))
	constant := raw(api.DConst, "M::c", one(api.TInt), x)
	for want, tree := range map[string]api.Tree{
		"requires x": one(api.CRequires, x), "ensures x": one(api.CEnsures, x), "invariant x": one(api.CInvariant, x), "decreases x, y": one(api.CDecreases, x, y), "reads x": one(api.CReads, x), "modifies x": one(api.CModifies, x),
		"x: int": typed(api.DParam, "x"), "ghost x: int": typed(api.DGhostParam, "x"), "y: int": typed(api.DOut, "y"), "f: int": typed(api.DField, "f"), "ghost var f: int;": typed(api.DGhostField, "f"), "T": tp("T"), "fuel 3": mark("fuel 3"), "int": result, "+x": raw(api.MName, "+x"),
		"C": raw(api.DCons, "C"), "C(f: int, g: int)": raw(api.DCons, "C", typed(api.DField, "f"), typed(api.DField, "g")), "datatype D = C": raw(api.DDatatype, "D", raw(api.DCons, "C")), "datatype M::D<T, U> = C(f: int) | E": raw(api.DDatatype, "M::D", tp("T"), tp("U"), raw(api.DCons, "C", typed(api.DField, "f")), raw(api.DCons, "E")),
		"type S = x: int | 0 <= x witness y": raw(api.DSubset, "S", typed(api.DParam, "x"), one(api.ELe, raw(api.EInt, "0"), x), y), "class C {\n}": raw(api.DClass, "C"), "class C {\n  var f: int;\n  ghost var g: int;\n}": raw(api.DClass, "C", typed(api.DField, "f"), typed(api.DGhostField, "g")), "const M::c: int := x;": constant,
		"function f(): int": raw(api.DFunction, "f", result), "ghost fuel 2 function f<T, U>(x: int, ghost y: int): int\n  requires x\n  requires y\n  reads z\n  ensures y\n  decreases x, y\n{\n  if x then y else z\n}": raw(api.DFunction, "f", mark("ghost"), mark("fuel 2"), tp("T"), tp("U"), typed(api.DParam, "x"), typed(api.DGhostParam, "y"), result,
			one(api.CRequires, x), one(api.CRequires, y), one(api.CReads, z), one(api.CEnsures, y), one(api.CDecreases, x, y), one(api.EIf, x, y, z)),
		"method m()": raw(api.DMethod, "m"), "method m()\n{\n}": raw(api.DMethod, "m", block()), "lemma ghost method m<T>(ghost h: int, p: int) returns (o: int, y: int)\n  requires x\n  modifies y\n  ensures z\n  decreases x\n{\n  return;\n}": raw(api.DMethod, "m", mark("lemma"), mark("ghost"), tp("T"), typed(api.DGhostParam, "h"), typed(api.DParam, "p"), typed(api.DOut, "o"), typed(api.DOut, "y"),
			one(api.CRequires, x), one(api.CModifies, y), one(api.CEnsures, z), one(api.CDecreases, x), block(one(api.SReturn))),
	} {
		check(t, tree, want)
	}
}

// TestPrintModules is for P2.4.
func TestPrintModules(t *testing.T) {
	imports, exports := raw(api.MImport, "A"), one(api.MExport, raw(api.MName, "a"), raw(api.MName, "+b"))
	constant, method := raw(api.DConst, "c", one(api.TInt), v("x")), raw(api.DMethod, "m", block())
	named := raw(api.MModule, "M", raw(api.MRefines, "N"), imports, exports, constant, method)
	nameless := raw(api.MModule, "", raw(api.MRefines, "N"), imports, exports, constant, method)
	inner := "import A;\nexport a, +b;\nconst c: int := x;\nmethod m()\n{\n}"
	outer := "module M refines N {\n  " + strings.ReplaceAll(inner, "\n", "\n  ") + "\n}"
	for want, tree := range map[string]api.Tree{
		"import A;": imports, "export a, +b;": exports, "export;": one(api.MExport), "refines N": raw(api.MRefines, "N"), "module M {\n}": raw(api.MModule, "M"), "module M {\n  export;\n}": raw(api.MModule, "M", one(api.MExport)), "": raw(api.MModule, ""),
		outer: named, inner: nameless, outer + "\nmodule L {\n}\n" + inner: one(api.MProgram, named, raw(api.MModule, "L"), raw(api.MModule, ""), nameless),
	} {
		check(t, tree, want)
	}
	check(t, one(api.MProgram, raw(api.MModule, "")), "")
}

// TestPrintLength is for P2.4: the limit of the text.
func TestPrintLength(t *testing.T) {
	number := strings.Repeat("9", 120)
	list := func(n int, last string) api.Tree {
		var kids []api.Tree
		for range n {
			kids = append(kids, raw(api.EInt, number))
		}
		return one(api.ESeq, append(kids, raw(api.EInt, last))...)
	}
	for _, c := range []struct {
		t    api.Tree
		size int
		want api.Errno
	}{
		{list(537, number[:20]), 65536, api.OK}, {list(537, number[:21]), 0, api.ErrLong}, {list(3000, "0"), 0, api.ErrLong}, {nil, 0, api.ErrEmpty}, {v("X"), 0, api.ErrName},
	} {
		if s, e := Print(c.t); len(s) != c.size || e != c.want {
			t.Errorf("Print: %d bytes, %d, want %d, %d", len(s), e, c.size, c.want)
		}
	}
}

// TestPrintDeep prints nested statements, whose indentation is a large part of the text. (P2.4)
func TestPrintDeep(t *testing.T) {
	tree := block()
	for range 59 {
		tree = block(tree)
	}
	s, e := Print(tree)
	lines := strings.Split(s, "\n")
	if e != api.OK || len(lines) != 120 || lines[59] != strings.Repeat(" ", 118)+"{" || lines[60] != strings.Repeat(" ", 118)+"}" {
		t.Errorf("Print: %d lines, %d", len(lines), e)
	}
}

// TestPrintDiffers prints random expressions: different ones have different texts. (P2.4)
func TestPrintDiffers(t *testing.T) {
	seen := map[string]api.Tree{}
	trees(t, 6000, func(m maker, tree api.Tree) {
		if classOf(tree[len(tree)-1].Op) != Expression {
			return
		}
		s, e := Print(tree)
		if e != api.OK || strings.Contains(s, "\n") {
			t.Fatalf("Print: %q, %d", s, e)
		}
		if before, found := seen[s]; found && !Same(before, tree) {
			t.Fatalf("two trees with the text %q", s)
		}
		seen[s] = tree
	})
}
