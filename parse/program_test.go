package parse

import (
	"strings"
	"testing"

	"entail/api"
)

// TestDeclarations is for P4.2: all kinds of declarations.
func TestDeclarations(t *testing.T) {
	checkTrees(t, Declaration, []shown{
		{"datatype D = C", "DDatatype:D@0(DCons:C@13)"},
		{"datatype M::D<S, T> = M::C(f: S, g: seq<T>) | E() | F", "DDatatype:M::D@0(DTypeParam:S@14 DTypeParam:T@17 DCons:M::C@22(DField:f@27(TName:S@30) DField:g@33(TSeq@36(TName:T@40))) DCons:E@46 DCons:F@52)"},
		{"type N = x: int | 0 <= x | a witness 0", "DSubset:N@0(DParam:x@9(TInt@12) ELe@20(EInt:0@18 EBitOr@25(EVar:x@23 EVar:a@27)) EInt:0@37)"},
		{"type M::N = x: N | forall y: int :: a witness if a then b else c", "DSubset:M::N@0(DParam:x@12(TName:N@15) EForall@19(QVar:y@26(TInt@29) EVar:a@36) EIf@46(EVar:a@49 EVar:b@56 EVar:c@63))"},
		{"class C { }", "DClass:C@0"},
		{"class C { var f: int; ghost var g: C; }", "DClass:C@0(DField:f@14(TInt@17) DGhostField:g@22(TName:C@35))"},
		{"const c: int := 1;", "DConst:c@0(TInt@9 EInt:1@16)"},
		{"const M::c: seq<seq<int>> := [];", "DConst:M::c@0(TSeq@12(TSeq@16(TInt@20)) ESeq@29)"},
		{"function f(): int", "DFunction:f@0(DResult@14(TInt@14))"},
		{"ghost opaque function M::f<T>(x: T, ghost y: int): seq<T> { x }", "DFunction:M::f@0(DMark:ghost@0 DMark:opaque@6 DTypeParam:T@27 DParam:x@30(TName:T@33) DGhostParam:y@36(TInt@45) DResult@51(TSeq@51(TName:T@55)) EVar:x@60)"},
		{"fuel 3 least greatest hidden function f(): bool", "DFunction:f@0(DMark:fuel 3@0 DMark:least@7 DMark:greatest@13 DMark:hidden@22 DResult@43(TBool@43))"},
		{"function f(): int requires {a} <= b { {c} }", "DFunction:f@0(DResult@14(TInt@14) CRequires@18(ELe@31(ESet@27(EVar:a@28) EVar:b@34)) ESet@38(EVar:c@39))"},
		{"method m()", "DMethod:m@0"},
		{"method m() { }", "DMethod:m@0(SBlock@11)"},
		{"lemma method m<S, T>(ghost x: S) returns (y: int, z: T) ensures a { return; }", "DMethod:m@0(DMark:lemma@0 DTypeParam:S@15 DTypeParam:T@18 DGhostParam:x@21(TName:S@30) DOut:y@42(TInt@45) DOut:z@50(TName:T@53) CEnsures@56(EVar:a@64) SBlock@66(SReturn@68))"},
	})
}

// TestProgramTrees is for P4.3: modules with and without names.
func TestProgramTrees(t *testing.T) {
	checkTrees(t, Program, []shown{
		{"", "MProgram@0(MModule@0)"},
		{" // nothing", "MProgram@0(MModule@0)"},
		{" import A; import B; export; const c: int := 1; method m()", "MProgram@0(MModule@0(MImport:A@1 MImport:B@11 MExport@21 DConst:c@29(TInt@38 EInt:1@45) DMethod:m@48))"},
		{"export x, + Y, f;", "MProgram@0(MModule@0(MExport@0(MName:x@7 MName:+Y@10 MName:f@15)))"},
		{"module A { }", "MProgram@0(MModule:A@0)"},
		{" module A refines B { import C; export +f; } module B { const c: int := 1; }", "MProgram@0(MModule:A@1(MRefines:B@10 MImport:C@22 MExport@32(MName:+f@39)) MModule:B@45(DConst:c@56(TInt@65 EInt:1@72)))"},
		{"type N = x: int | a witness b type O = y: N | a witness c datatype D = E function f(): int function g(): int { a } ghost method m() { }",
			"MProgram@0(MModule@0(DSubset:N@0(DParam:x@9(TInt@12) EVar:a@18 EVar:b@28) DSubset:O@30(DParam:y@39(TName:N@42) EVar:a@46 EVar:c@56) DDatatype:D@58(DCons:E@71) DFunction:f@73(DResult@87(TInt@87)) DFunction:g@91(DResult@105(TInt@105) EVar:a@111) DMethod:m@115(DMark:ghost@115 SBlock@132)))"},
	})
}

// TestFormat is for P4.3: the text of a program, and its errors.
func TestFormat(t *testing.T) {
	for s, want := range map[string]string{
		"": "",
		"module A{import B;const c:int:=1;}module B{}": "module A {\n  import B;\n  const c: int := 1;\n}\nmodule B {\n}",
		"export ;method m(){if(a){}else{}}":            "export;\nmethod m()\n{\n  if a {\n  } else {\n  }\n}",
		"const c:bool:=0<=i<n/*x*/;":                   "const c: bool := 0 <= i && i < n;",
		"function f():int ensures(a)reads{}{b}":        "function f(): int\n  reads {}\n  ensures a\n{\n  b\n}",
	} {
		got, at, e := Format(s)
		if got != want || at != 0 || e != api.OK {
			t.Errorf("Format(%q): %q, %d, %d, want %q", s, got, at, e, want)
		}
	}
	deep := strings.Repeat("{", 55) + strings.Repeat("print 0;", 3000) + strings.Repeat("}", 55)
	for s, want := range map[string]fault{
		"module A {":            {10, api.ErrSyntax},
		"const c: int := 1":     {17, api.ErrSyntax},
		"const c: int := 1.50;": {16, api.ErrName},
		"$":                     {0, api.ErrSyntax},
		"method m() " + deep:    {0, api.ErrMany},
		"method m() " + strings.Replace(deep, strings.Repeat("print 0;", 3000), strings.Repeat("print x;", 1200), 1): {0, api.ErrLong},
	} {
		got, at, e := Format(s)
		if got != "" || (fault{at, e}) != want {
			t.Errorf("Format(%.40q): %.20q, %d, %d, want %v", s, got, at, e, want)
		}
	}
}

// TestLevel is for P4.1: the levels of all Ops.
func TestLevel(t *testing.T) {
	levels := map[string]int{
		"EIff": 0, "EImp": 1, "EOr": 2, "EAnd": 3, "EEq": 4, "ENe": 4, "ELt": 4, "ELe": 4, "EIn": 4,
		"EBitAnd": 5, "EBitOr": 5, "EBitXor": 5, "EShl": 6, "EShr": 6, "EAdd": 7, "ESub": 7, "EMul": 8, "EDiv": 8, "EMod": 8,
		"ENot": 9, "ENeg": 9, "ECard": 9, "EField": 10, "EIs": 10, "EIndex": 10, "ESlice": 10, "EUpdate": 10,
		"EIf": -1, "ELet": -1, "EForall": -1, "EExists": -1, "ESetOf": -1, "EMatch": -1,
		"EInt": 11, "EReal": 11, "EBool": 11, "EVar": 11, "EAs": 11, "ECall": 11, "ECons": 11, "ESeq": 11, "ESet": 11, "EMulti": 11, "EMap": 11, "EOld": 11, "EFresh": 11,
	}
	for op, name := range strings.Fields(opNames) {
		want, found := levels[name]
		n, e := Level(op)
		if found && (n != want || e != api.OK) || !found && (n != 0 || e != api.ErrKind) {
			t.Errorf("Level of %s: %d, %d", name, n, e)
		}
	}
	for _, op := range []int{-1, api.Ops, 1 << 40} {
		if n, e := Level(op); n != 0 || e != api.ErrKind {
			t.Errorf("Level(%d): %d, %d", op, n, e)
		}
	}
}
