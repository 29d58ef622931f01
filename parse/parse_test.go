package parse

import (
	"strconv"
	"strings"
	"testing"

	"entail/api"
)

// parserOf is one of the functions that read a text.
type parserOf func(string) (api.Tree, int, api.Errno)

// opNames are the names of all Ops, in their order.
const opNames = "TBool TInt TReal TBits TSeq TSet TMulti TMap TArray TName EInt EReal EBool EVar ENot ENeg EAdd ESub EMul EDiv EMod EAnd EOr EImp EIff EEq ENe ELt ELe EIn EBitAnd EBitOr EBitXor EShl EShr EAs EIf ELet ECall ECons EField EIs EIndex ESlice EUpdate ECard ESeq ESet EMulti EMap EForall EExists ESetOf EMatch ECase EOld EFresh QVar QTrigger PVar PWild PCons PLit SBlock SVar SGhostVar SAssign SHavoc SChoose SCall SLhs SNew SNewArray SIf SAlt SGuard SWhile SMatch SCase SAssert SAssume SCalc SStep SForall SReturn SPrint SReveal CRequires CEnsures CInvariant CDecreases CReads CModifies DParam DGhostParam DOut DTypeParam DField DGhostField DCons DDatatype DSubset DClass DConst DMark DFunction DResult DMethod MImport MExport MName MRefines MModule MProgram"

// show returns a tree as text: the Op of each node, its Text, its offset, and its children in parentheses.
func show(t api.Tree, node int) string {
	n := t[node]
	out := strings.Fields(opNames)[n.Op]
	if n.Text != "" {
		out += ":" + n.Text
	}
	out += "@" + strconv.Itoa(n.At)
	if len(n.Kids) == 0 {
		return out
	}
	var kids []string
	for _, kid := range n.Kids {
		kids = append(kids, show(t, kid))
	}
	return out + "(" + strings.Join(kids, " ") + ")"
}

// shown is a text with the tree that it has.
type shown struct {
	text, want string
}

// checkTrees compares the trees of texts with those that they have to have.
func checkTrees(t *testing.T, parse parserOf, list []shown) {
	t.Helper()
	for _, c := range list {
		tree, at, e := parse(c.text)
		if e != api.OK || at != 0 {
			t.Errorf("%q: error %d at %d", c.text, e, at)
			continue
		}
		if got := show(tree, len(tree)-1); got != c.want {
			t.Errorf("%q:\n%s, want\n%s", c.text, got, c.want)
		}
	}
}

// TestOperators is for P4.1: levels, sides, and offsets of operations.
func TestOperators(t *testing.T) {
	checkTrees(t, Expression, []shown{
		{"a <==> b <==> c", "EIff@9(EIff@2(EVar:a@0 EVar:b@7) EVar:c@14)"},
		{"a ==> b ==> c", "EImp@2(EVar:a@0 EImp@8(EVar:b@6 EVar:c@12))"},
		{"a ==> b <==> c", "EIff@8(EImp@2(EVar:a@0 EVar:b@6) EVar:c@13)"},
		{"a||b&&c||d", "EOr@7(EOr@1(EVar:a@0 EAnd@4(EVar:b@3 EVar:c@6)) EVar:d@9)"},
		{"a&&b==c", "EAnd@1(EVar:a@0 EEq@4(EVar:b@3 EVar:c@6))"},
		{"a==b|c", "EEq@1(EVar:a@0 EBitOr@4(EVar:b@3 EVar:c@5))"},
		{"a&b|c^d", "EBitXor@5(EBitOr@3(EBitAnd@1(EVar:a@0 EVar:b@2) EVar:c@4) EVar:d@6)"},
		{"a&b<<c>>d", "EBitAnd@1(EVar:a@0 EShr@6(EShl@3(EVar:b@2 EVar:c@5) EVar:d@8))"},
		{"a<<b+c-d", "EShl@1(EVar:a@0 ESub@6(EAdd@4(EVar:b@3 EVar:c@5) EVar:d@7))"},
		{"a-b*c/d%e", "ESub@1(EVar:a@0 EMod@7(EDiv@5(EMul@3(EVar:b@2 EVar:c@4) EVar:d@6) EVar:e@8))"},
		{"a*-b", "EMul@1(EVar:a@0 ENeg@2(EVar:b@3))"},
		{"-x.f * 2", "EMul@5(ENeg@0(EField:f@2(EVar:x@1)) EInt:2@7)"},
		{"!a in s", "EIn@3(ENot@0(EVar:a@1) EVar:s@6)"},
		{"a !in s", "ENot@2(EIn@2(EVar:a@0 EVar:s@6))"},
		{"a ! /**/ in s&&b", "EAnd@13(ENot@2(EIn@2(EVar:a@0 EVar:s@12)) EVar:b@15)"},
		{"#-!a", "ECard@0(ENeg@1(ENot@2(EVar:a@3)))"},
		{"a != b", "ENe@2(EVar:a@0 EVar:b@5)"},
		{"a > b", "ELt@2(EVar:b@4 EVar:a@0)"},
		{"a>=b", "ELe@1(EVar:b@3 EVar:a@0)"},
		{"a+b>=c*d", "ELe@3(EMul@6(EVar:c@5 EVar:d@7) EAdd@1(EVar:a@0 EVar:b@2))"},
		{"(a<b)<c", "ELt@5(ELt@2(EVar:a@1 EVar:b@3) EVar:c@6)"},
		{"a - (b - c)", "ESub@2(EVar:a@0 ESub@7(EVar:b@5 EVar:c@9))"},
	})
}

// TestChains is for P4.1: several comparisons are the conjunction of those of neighbours.
func TestChains(t *testing.T) {
	checkTrees(t, Expression, []shown{
		{"0 <= i < n", "EAnd@7(ELe@2(EInt:0@0 EVar:i@5) ELt@7(EVar:i@5 EVar:n@9))"},
		{"a==b>c>=d", "EAnd@6(EAnd@4(EEq@1(EVar:a@0 EVar:b@3) ELt@4(EVar:c@5 EVar:b@3)) ELe@6(EVar:d@8 EVar:c@5))"},
		{"a<b+1<c&&d", "EAnd@7(EAnd@5(ELt@1(EVar:a@0 EAdd@3(EVar:b@2 EInt:1@4)) ELt@5(EAdd@3(EVar:b@2 EInt:1@4) EVar:c@6)) EVar:d@9)"},
		{"a<(b<c<d)<e", "EAnd@9(ELt@1(EVar:a@0 EAnd@6(ELt@4(EVar:b@3 EVar:c@5) ELt@6(EVar:c@5 EVar:d@7))) ELt@9(EAnd@6(ELt@4(EVar:b@3 EVar:c@5) ELt@6(EVar:c@5 EVar:d@7)) EVar:e@10))"},
		{"a<b==>c<d", "EImp@3(ELt@1(EVar:a@0 EVar:b@2) ELt@7(EVar:c@6 EVar:d@8))"},
	})
}

// TestPrimaries is for P4.1: operands and what follows them.
func TestPrimaries(t *testing.T) {
	checkTrees(t, Expression, []shown{
		{"0", "EInt:0@0"},
		{" 1.25", "EReal:1.25@1"},
		{"true", "EBool:true@0"},
		{"false", "EBool:false@0"},
		{"M::x", "EVar:M::x@0"},
		{"f()", "ECall:f@0"},
		{"M::f(x,1)", "ECall:M::f@0(EVar:x@5 EInt:1@7)"},
		{"C", "ECons:C@0"},
		{"C()", "ECons:C@0"},
		{"Z", "ECons:Z@0"},
		{"A(a, z)", "ECons:A@0(EVar:a@2 EVar:z@5)"},
		{"M::C(D)", "ECons:M::C@0(ECons:D@5)"},
		{"((x))", "EVar:x@2"},
		{"( x as seq<bv8>)", "EAs@0(EVar:x@2 TSeq@7(TBits:8@11))"},
		{"[]", "ESeq@0"},
		{"[a,b]", "ESeq@0(EVar:a@1 EVar:b@3)"},
		{"{}", "ESet@0"},
		{"{a,{b}}", "ESet@0(EVar:a@1 ESet@3(EVar:b@4))"},
		{"multiset{}", "EMulti@0"},
		{"multiset {a,a}", "EMulti@0(EVar:a@10 EVar:a@12)"},
		{"map[]", "EMap@0"},
		{"map[a:=1,b:=2]", "EMap@0(EVar:a@4 EInt:1@7 EVar:b@9 EInt:2@12)"},
		{"old(x.f)", "EOld@0(EField:f@5(EVar:x@4))"},
		{"fresh( x )", "EFresh@0(EVar:x@7)"},
		{"x.f.g", "EField:g@3(EField:f@1(EVar:x@0))"},
		{"x.C?", "EIs:C@1(EVar:x@0)"},
		{"x.M::C ?", "EIs:M::C@1(EVar:x@0)"},
		{"x[1]", "EIndex@1(EVar:x@0 EInt:1@2)"},
		{"x[1..2]", "ESlice@1(EVar:x@0 EInt:1@2 EInt:2@5)"},
		{"x[1:=2]", "EUpdate@1(EVar:x@0 EInt:1@2 EInt:2@5)"},
		{"f(x)[0].g[1]", "EIndex@9(EField:g@7(EIndex@4(ECall:f@0(EVar:x@2) EInt:0@5)) EInt:1@10)"},
		{"[a][0]", "EIndex@3(ESeq@0(EVar:a@1) EInt:0@4)"},
		{"3.f", "EField:f@1(EInt:3@0)"},
		{"#x[0]", "ECard@0(EIndex@2(EVar:x@1 EInt:0@3))"},
	})
}

// TestBinders is for P4.1: expressions that are no operands.
func TestBinders(t *testing.T) {
	checkTrees(t, Expression, []shown{
		{"if a then b else c", "EIf@0(EVar:a@3 EVar:b@10 EVar:c@17)"},
		{"if a then b else if c then d else e", "EIf@0(EVar:a@3 EVar:b@10 EIf@17(EVar:c@20 EVar:d@27 EVar:e@34))"},
		{"if {a} == b then c else d + e", "EIf@0(EEq@7(ESet@3(EVar:a@4) EVar:b@10) EVar:c@17 EAdd@26(EVar:d@24 EVar:e@28))"},
		{"var x := a; x + 1", "ELet:x@0(EVar:a@9 EAdd@14(EVar:x@12 EInt:1@16))"},
		{"forall x: int :: a && b", "EForall@0(QVar:x@7(TInt@10) EAnd@19(EVar:a@17 EVar:b@22))"},
		{"exists x: int, y: C<T> {f(x), y} {g(y)} :: x", "EExists@0(QVar:x@7(TInt@10) QVar:y@15(TName:C@18(TName:T@20)) QTrigger@23(ECall:f@24(EVar:x@26) EVar:y@30) QTrigger@33(ECall:g@34(EVar:y@36)) EVar:x@43)"},
		{"set x: int | x in s :: x * x", "ESetOf@0(QVar:x@4(TInt@7) EIn@15(EVar:x@13 EVar:s@18) EMul@25(EVar:x@23 EVar:x@27))"},
		{"set x: int | a | b :: x", "ESetOf@0(QVar:x@4(TInt@7) EBitOr@15(EVar:a@13 EVar:b@17) EVar:x@22)"},
		{"match a { case x => b case _ => c + d }", "EMatch@0(EVar:a@6 ECase@10(PVar:x@15 EVar:b@20) ECase@22(PWild@27 EAdd@34(EVar:c@32 EVar:d@36)))"},
		{"(if a then b else c) + d", "EAdd@21(EIf@1(EVar:a@4 EVar:b@11 EVar:c@18) EVar:d@23)"},
		{"match a { case C => match b { case D => c } }", "EMatch@0(EVar:a@6 ECase@10(PCons:C@15 EMatch@20(EVar:b@26 ECase@30(PCons:D@35 EVar:c@40))))"},
	})
}

// TestTypesAndPatterns is for P4.1: types, also with >> at their ends, and patterns.
func TestTypesAndPatterns(t *testing.T) {
	checkTrees(t, Type, []shown{
		{"bool", "TBool@0"},
		{" int", "TInt@1"},
		{"real", "TReal@0"},
		{"bv1", "TBits:1@0"},
		{"bv64", "TBits:64@0"},
		{"seq<int>", "TSeq@0(TInt@4)"},
		{"set<int>", "TSet@0(TInt@4)"},
		{"multiset<int>", "TMulti@0(TInt@9)"},
		{"array<int>", "TArray@0(TInt@6)"},
		{"map<int, bool>", "TMap@0(TInt@4 TBool@9)"},
		{"map<int, seq<seq<int>>>", "TMap@0(TInt@4 TSeq@9(TSeq@13(TInt@17)))"},
		{"seq<seq<seq<seq<int>>>>", "TSeq@0(TSeq@4(TSeq@8(TSeq@12(TInt@16))))"},
		{"seq<seq<int> >", "TSeq@0(TSeq@4(TInt@8))"},
		{"C", "TName:C@0"},
		{"M::C", "TName:M::C@0"},
		{"C<int,D<T>>", "TName:C@0(TInt@2 TName:D@6(TName:T@8))"},
	})
	checkTrees(t, Pattern, []shown{
		{"x", "PVar:x@0"},
		{"_", "PWild@0"},
		{"C", "PCons:C@0"},
		{"C()", "PCons:C@0"},
		{"M::C(x,_,D)", "PCons:M::C@0(PVar:x@5 PWild@7 PCons:D@9)"},
		{"0", "PLit@0(EInt:0@0)"},
		{"- 7", "PLit@0(ENeg@0(EInt:7@2))"},
		{"true", "PLit@0(EBool:true@0)"},
		{"false", "PLit@0(EBool:false@0)"},
	})
}

// TestSimpleStatements is for P4.2: statements without blocks.
func TestSimpleStatements(t *testing.T) {
	checkTrees(t, Statement, []shown{
		{"var x: int;", "SVar:x@0(TInt@7)"},
		{"ghost var x: seq<seq<int>> := a;", "SGhostVar:x@0(TSeq@13(TSeq@17(TInt@21)) EVar:a@30)"},
		{"x :| x < 1;", "SChoose:x@0(ELt@7(EVar:x@5 EInt:1@9))"},
		{"x := *;", "SHavoc@0(EVar:x@0)"},
		{"x.f := *;", "SHavoc@0(EField:f@1(EVar:x@0))"},
		{"x := x + 1;", "SAssign@0(EVar:x@0 EAdd@7(EVar:x@5 EInt:1@9))"},
		{"x[0] := 1;", "SAssign@0(EIndex@1(EVar:x@0 EInt:0@2) EInt:1@8)"},
		{"f(x).g := 1;", "SAssign@0(EField:g@4(ECall:f@0(EVar:x@2)) EInt:1@10)"},
		{"(x).f := 1;", "SAssign@0(EField:f@3(EVar:x@1) EInt:1@9)"},
		{"((x.f)) := 1;", "SAssign@0(EField:f@3(EVar:x@2) EInt:1@11)"},
		{"({a}[b]) := c;", "SAssign@0(EIndex@4(ESet@1(EVar:a@2) EVar:b@5) EVar:c@12)"},
		{"(a + b).f := c;", "SAssign@0(EField:f@7(EAdd@3(EVar:a@1 EVar:b@5)) EVar:c@13)"},
		{"M::c.f := 1;", "SAssign@0(EField:f@4(EVar:M::c@0) EInt:1@10)"},
		{"x[1..2][0] := 1;", "SAssign@0(EIndex@7(ESlice@1(EVar:x@0 EInt:1@2 EInt:2@5) EInt:0@8) EInt:1@14)"},
		{"x := f(1);", "SAssign@0(EVar:x@0 ECall:f@5(EInt:1@7))"},
		{"x := call m(1);", "SCall:m@0(SLhs@0(EVar:x@0) EInt:1@12)"},
		{"x, y := call M::m();", "SCall:M::m@0(SLhs@0(EVar:x@0 EVar:y@3))"},
		{" call m(a, b);", "SCall:m@1(SLhs@1 EVar:a@8 EVar:b@11)"},
		{"x := new C(1);", "SNew:x@0(TName:C@9 EInt:1@11)"},
		{"x := new M::C<seq<int>>();", "SNew:x@0(TName:M::C@9(TSeq@14(TInt@18)))"},
		{"x := new array<seq<int>>(3, []);", "SNewArray:x@0(TSeq@15(TInt@19) EInt:3@25 ESeq@28)"},
		{"assert a;", "SAssert@0(EVar:a@7)"},
		{"assert l: a;", "SAssert:l@0(EVar:a@10)"},
		{"assume a;", "SAssume@0(EVar:a@7)"},
		{"print a;", "SPrint@0(EVar:a@6)"},
		{"return;", "SReturn@0"},
		{"reveal M::f;", "SReveal:M::f@0"},
	})
}

// TestBlocks is for P4.2: statements with blocks.
func TestBlocks(t *testing.T) {
	checkTrees(t, Statement, []shown{
		{"{}", "SBlock@0"},
		{"{ return; { } }", "SBlock@0(SReturn@2 SBlock@10)"},
		{"if a { }", "SIf@0(EVar:a@3 SBlock@5)"},
		{"if a { } else { }", "SIf@0(EVar:a@3 SBlock@5 SBlock@14)"},
		{"if a { } else if b { } else { }", "SIf@0(EVar:a@3 SBlock@5 SIf@14(EVar:b@17 SBlock@19 SBlock@28))"},
		{"if a { } else if ({b} <= c) { }", "SIf@0(EVar:a@3 SBlock@5 SIf@14(ELe@22(ESet@18(EVar:b@19) EVar:c@25) SBlock@28))"},
		{"if a { } else if b == {c} { }", "SIf@0(EVar:a@3 SBlock@5 SIf@14(EEq@19(EVar:b@17 ESet@22(EVar:c@23)) SBlock@26))"},
		{"if a { } else if if {b} == c then d else e { }", "SIf@0(EVar:a@3 SBlock@5 SIf@14(EIf@17(EEq@24(ESet@20(EVar:b@21) EVar:c@27) EVar:d@34 EVar:e@41) SBlock@43))"},
		{"if ({a} <= b) { }", "SIf@0(ELe@8(ESet@4(EVar:a@5) EVar:b@11) SBlock@14)"},
		{"if { case a => { } }", "SAlt@0(SGuard@5(EVar:a@10 SBlock@15))"},
		{"if { case x < 0 => { } case {a} == b => { return; } }", "SAlt@0(SGuard@5(ELt@12(EVar:x@10 EInt:0@14) SBlock@19) SGuard@23(EEq@32(ESet@28(EVar:a@29) EVar:b@35) SBlock@40(SReturn@42)))"},
		{"while a { }", "SWhile@0(EVar:a@6 SBlock@8)"},
		{"while {a} <= b { }", "SWhile@0(ELe@10(ESet@6(EVar:a@7) EVar:b@13) SBlock@15)"},
		{"match a { case C(x) => { } case _ => { } }", "SMatch@0(EVar:a@6 SCase@10(PCons:C@15(PVar:x@17) SBlock@23) SCase@27(PWild@32 SBlock@37))"},
		{"assert a by { return; }", "SAssert@0(EVar:a@7 SBlock@12(SReturn@14))"},
		{"assert l: a by { }", "SAssert:l@0(EVar:a@10 SBlock@15)"},
		{"forall x: int, y: T | x < y ensures a { }", "SForall@0(QVar:x@7(TInt@10) QVar:y@15(TName:T@18) ELt@24(EVar:x@22 EVar:y@26) CEnsures@28(EVar:a@36) SBlock@38)"},
		{"forall x: int | a | b ensures a { }", "SForall@0(QVar:x@7(TInt@10) EBitOr@18(EVar:a@16 EVar:b@20) CEnsures@22(EVar:a@30) SBlock@32)"},
	})
}

// TestCalculations is for P4.2: the relation and the hint belong to the expression before them, and an expression may begin with a left brace where no hint can be.
func TestCalculations(t *testing.T) {
	checkTrees(t, Statement, []shown{
		{"calc { a; }", "SCalc@0(SStep@7(EVar:a@7))"},
		{"calc { a; == b; ==> { } c; }", "SCalc@0(SStep:==@7(EVar:a@7) SStep:==>@13(EVar:b@13 SBlock@20) SStep@24(EVar:c@24))"},
		{"calc { a + b; <= { return; } (c); < (d) + e; }", "SCalc@0(SStep:<=@7(EAdd@9(EVar:a@7 EVar:b@11) SBlock@17(SReturn@19)) SStep:<@29(EVar:c@30) SStep@36(EAdd@40(EVar:d@37 EVar:e@42)))"},
		{"calc { {a}; == { } {b}; }", "SCalc@0(SStep:==@7(ESet@7(EVar:a@8) SBlock@15) SStep@19(ESet@19(EVar:b@20)))"},
	})
}

// TestClauses is for P4.2: clauses are grouped, in the order of the text within a group.
func TestClauses(t *testing.T) {
	checkTrees(t, Statement, []shown{
		{"while a modifies b invariant c decreases d, e invariant f modifies g { }", "SWhile@0(EVar:a@6 CInvariant@19(EVar:c@29) CInvariant@46(EVar:f@56) CDecreases@31(EVar:d@41 EVar:e@44) CModifies@8(EVar:b@17) CModifies@58(EVar:g@67) SBlock@69)"},
	})
	checkTrees(t, Declaration, []shown{
		{"function f(): int decreases a, b ensures c reads d requires e requires g ensures h reads i { j }", "DFunction:f@0(DResult@14(TInt@14) CRequires@51(EVar:e@60) CRequires@62(EVar:g@71) CReads@43(EVar:d@49) CReads@83(EVar:i@89) CEnsures@33(EVar:c@41) CEnsures@73(EVar:h@81) CDecreases@18(EVar:a@28 EVar:b@31) EVar:j@93)"},
		{"method m() decreases a ensures b modifies c requires d modifies e", "DMethod:m@0(CRequires@44(EVar:d@53) CModifies@33(EVar:c@42) CModifies@55(EVar:e@64) CEnsures@23(EVar:b@31) CDecreases@11(EVar:a@21))"},
	})
}
