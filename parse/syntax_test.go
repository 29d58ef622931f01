package parse

import (
	"strings"
	"testing"

	"entail/api"
)

// checkFaults compares the errors of texts with those that they have to have.
func checkFaults(t *testing.T, parse parserOf, list map[string]fault) {
	t.Helper()
	for s, want := range list {
		tree, at, e := parse(s)
		if len(tree) > 0 || (fault{at, e}) != want {
			t.Errorf("%.80q: %d at %d, want %d at %d", s, e, at, want.e, want.at)
		}
	}
}

// checkWrong asks for ErrSyntax at the place of the tilde of each text, which is not part of it.
func checkWrong(t *testing.T, parse parserOf, texts []string) {
	t.Helper()
	list := map[string]fault{}
	for _, s := range texts {
		before, behind, found := strings.Cut(s, "~")
		if !found {
			t.Errorf("no tilde in %q", s)
		}
		list[before+behind] = fault{len(before), api.ErrSyntax}
	}
	checkFaults(t, parse, list)
}

// TestOperandErrors is for P4.1: the first token that does not continue an operation.
func TestOperandErrors(t *testing.T) {
	checkWrong(t, Expression, []string{
		"~", " ~", "x + ~;", "x ~y", "x~;", "~)", "(a~", "(a~]", "(~)", "f(a,~)", "f(~,a)", "f(a ~b)", "[a,~]", "{a~:= b}", "[a~", "C(a~", "C(~,)",
		"a < b ~in c", "a != b ~< c", "a in b ~== c", "a == b ~!= c", "a < b < c ~in d", "a < b < c ~!= d", "a < b ~!in c", "a !in b ~< c", "a !in b ~!in c", "a != b ~!= c",
		"a ~! b", "a ~!", "a < b ~! c", "! ~in s", "a + b ~!c", "a.f ~! (in)",
		"a <==> ~if b then c else d", "a + ~forall x: int :: b", "a ==> ~var x := a; b", "- ~match a { }", "# ~set x: int | a :: b", "a ==> ~==> b", "a && ~", "a ~= b", "a ~=> b", "a ~:= b", "~* a", "~< a", "~in a", "a ~_", "~_", "a ~.. b", "a ~:: b",
		"x.~1", "x.~", "x.C~", "x.C ~.f", "x.~M::f", "x.~if", "x[~]", "x[1~", "x[1~,2]", "x[1..~]", "x[1..2~..3]", "x[1:=~]", "x[1:=2~:=3]", "x[~..2]",
		"(x as ~)", "(x as int~", "(x as int ~as int)", "x ~as int", "(x as ~1)", "(x as ~true)", "(x as seq<int>~> y)", "(x as seq<int>~>", "(x as int~>> y)", "(x as int~>= y)",
		"~case", "1 ~2", "1 ~1.5", "x.f ~g", "m ~:: f", "~seq", "~array", "~int", "map~{a}", "map[a~]", "map[a := b~:= c]", "map[~:= b]", "multiset~[a]", "old ~a", "fresh(~)", "old(a~,b)", "~new", "~call",
	})
}

// TestBinderErrors is for P4.1: the first token that does not continue an expression that is no operand.
func TestBinderErrors(t *testing.T) {
	checkWrong(t, Expression, []string{
		"if ~", "if a ~b", "if a then b~", "if a then b ~}", "if a then b else ~", "if ~then",
		"var ~X := a; b", "var x~: int := a; b", "var x := a~", "var x := a ~b", "var ~M::x := a; b", "var x := a;~",
		"forall ~:: a", "forall x ~:: a", "forall x: int~", "forall x: int, ~:: a", "forall x: int {~} :: a", "forall x: int {a} ~a", "forall x: int {a} {b ~:: a", "forall ~X: int :: a", "exists x: int ~| a", "forall x: ~x :: a", "forall x: int ::~",
		"set x: int ~:: a", "set x: int | a~", "set x: int~, y: int | a :: b", "set ~{a}", "set x: int | a ::~",
		"match a ~case", "match a {~}", "match a { case ~}", "match a { case x ~}", "match a { case x => ~}", "match a { case x => b~", "match a { case x => b ~_ => c }", "match a { case x ~:= b }",
	})
}

// TestTypeErrors is for P4.1: the first token that does not continue a type.
func TestTypeErrors(t *testing.T) {
	checkWrong(t, Type, []string{
		"~", "~x", "~M::x", "~bv0", "~bv65", "int~<int>", "seq~", "seq<~", "seq<~>", "seq<int~", "seq<int~,int>", "seq<int>~>", "seq<seq<int>>~>", "seq<seq<int>~", "map<int~>", "map<int,int~,int>", "C<~>", "C<int,~>", "C~(int)", "int~>>", "C<int~=", "seq<int~>=", "~true", "int ~int",
	})
}

// TestPatternErrors is for P4.1: the first token that does not continue a pattern.
func TestPatternErrors(t *testing.T) {
	checkWrong(t, Pattern, []string{
		"~", "~M::x", "- ~x", "-~-1", "-~true", "-~1.5", "~1.5", "C(~", "C(x~", "C(x,~)", "C(x ~y)", "x~(y)", "_ ~_", "~(x)", "0 ~1", "~if", "C~<int>", "~[x]",
	})
}

// TestAssignmentErrors is for P4.2: the first token that does not continue a statement that assigns something.
func TestAssignmentErrors(t *testing.T) {
	checkWrong(t, Statement, []string{
		"~", "x~", "x ~;", "x := ~;", "x := a~", "x := a; ~x := a;", "f(x) ~:= 1;", "x ~+ 1 := 1;", "x.C? ~:= 1;", "x[1..2] ~:= 1;", "x[1 := 2] ~:= 1;", "(x) ~:= 1;", "((x)) ~:= 1;", "M::x ~:= 1;", "3 ~:= 1;", "C ~:= 1;", "x.f ~= 1;", "x.f ~:| a;", "x.f ~, y := call m();", "~-x := 1;", "(x.f ~:= 1);", "(x.f as int) ~:= 1;", "[x] ~:= 1;", "old(x) ~:= *;",
		"var ~X: int;", "var x ~:= 1;", "var x: int ~= 1;", "var x: int := ~;", "ghost ~x: int;", "ghost ~ghost var x: int;", "var x: int~", "ghost ~method", "x :| ~;", "x ~:: a;", "x :| a~", "x := * ~+ 1;", "x.f := * ~1;",
		"x, y ~;", "x, ~3 := call m();", "x, y~.f := call m();", "x, y := ~*;", "x, y := ~a;", "x, y := ~new C();", "x, ~Y := call m();", "x := call ~C();", "x := call m~;", "x := call m(a,~);", "call ~(m)();", "call m()~", "x.f := ~call m();",
		"x.f := ~new C();", "x := new ~c();", "x := new C~;", "x := new C<int~(1);", "x := new array~(1, 2);", "x := new array<int>(1~);", "x := new array<int>(1, 2~, 3);", "x := new ~seq<int>(1);", "x := new C(1)~", "x := new array<seq<int>~(1, 2);", "x := new C<seq<int>>~>(1);",
	})
}

// TestBlockErrors is for P4.2: the first token that does not continue a statement with a block; a left brace begins a block, not a set.
func TestBlockErrors(t *testing.T) {
	checkWrong(t, Statement, []string{
		"{ x ~}", "{~", "{ x, ~1 }", "{x.f ~}", "{x ~+ y}", "~}", "{ } ~;", "{ } ~{ }", "{ ~case",
		"if ~", "if { ~}", "if { case a ~{ } }", "if { case a => ~a; }", "if {~a} <= b { }", "if a ~b", "if a { } else ~x := 1;", "if a { } else if ~", "if a { } ~if b { }", "if a { } else { } ~else { }", "if a ~then { }", "if { case a => { } } ~else { }", "if a { } else if ~{ case a => { } }",
		"if a { } else if ~{b} <= c { }", "if a { } else if ~{} { }", "if a { } else if ~{", "if a { } else if b { } else if ~{c} == d { } else { }", "if a { if b { } else if ~{c} == d { } }", "if (a ~{ } else if {b} { }", "if { case a => { if b { } else if ~{ } } }",
		"while ~", "while a ~;", "while a invariant { } ~", "while a ~requires b { }", "while a { } ~invariant b", "while ~invariant", "match a { ~}", "match a { case C => ~a }", "match a { case ~1.5 => { } }", "match a { case C => { } ~C }",
		"assert ~;", "assert l: ~;", "assert a~", "assert a by ~;", "assert a ~{ }", "assert L~: a;", "assert l: m~: a;", "assert M::l~: a;", "assert ~by { }", "assume ~;", "assume a ~by { }", "print ~;", "print a~, b;", "return ~a;", "return~", "reveal ~C;", "reveal f~();", "reveal ~;",
		"calc ~a;", "calc { ~}", "calc { a ~}", "calc { a; ~b; }", "calc { a; == ~}", "calc { a; ~> b; }", "calc { a; ~!= b; }", "calc { a; == {a~}; }", "calc { a; == { } ~}", "calc { a; == { } {b ~; }", "calc { a; == b ~}", "calc { ~== a; }",
		"forall ~| a ensures b { }", "forall x: int ~:: a", "forall x: int ~{a} :: b", "forall x: int | a ~{ }", "forall x: int | a ensures b ~;", "forall x: int | a ensures b ~ensures c { }", "~exists x: int | a ensures b { }", "forall x: int | ~ensures a { }",
	})
}

// TestDeclarationErrors is for P4.2: the first token that does not continue a declaration.
func TestDeclarationErrors(t *testing.T) {
	checkWrong(t, Declaration, []string{
		"~", "~x", "~var x: int;", "~{", "datatype ~d = C", "datatype D ~C", "datatype D = ~c", "datatype D = C |~", "datatype D = C(~C)", "datatype D = C(f~)", "datatype D = C(f: int,~)", "datatype D<~> = C", "datatype D<~t> = C", "datatype D<~M::T> = C", "datatype D<S ~T> = C", "datatype D<T~>> = C", "datatype D<T~>= C", "datatype D = C ~;", "datatype D = C(~ghost f: int)", "datatype D ~{ }",
		"type ~n = x: int | a witness b", "type N ~x", "type N = ~X: int", "type N = x ~| a", "type N = x: int ~witness a", "type N = x: int | a~", "type N = x: int | a witness~", "type N = x: int | a witness b ~;", "type N~<T> = x: T | a witness b", "type N = ~int",
		"class ~c { }", "class C ~;", "class C~<T> { }", "class C { ~x: int; }", "class C { var ~X: int; }", "class C { ghost ~x: int; }", "class C { var x: int ~}", "class C { var x: int; ~method m() }", "class C { var x: int ~:= 1; }", "class C { } ~;",
		"const ~C: int := 1;", "const c ~:= 1;", "const c: int ~= 1;", "const c: int := 1~", "const c: int := 1; ~;", "ghost ~const c: int := 1;", "ghost~", "lemma ~datatype", "fuel ~function f(): int", "fuel ~12 function f(): int", "fuel ~1.5 function f(): int", "fuel ~x", "fuel 1 ~2", "ghost ~x",
		"function ~F(): int", "function f ~: int", "function f(~", "function f(x~): int", "function f(x: int,~): int", "function f(~X: int): int", "function f(ghost ~ghost x: int): int", "function f()~", "function f() ~{ }", "function f() ~returns (x: int)", "function f(): int {~}", "function f(): int { a~", "function f(): int { a ~; }", "function f(): int ~;", "function f(): int { a } ~requires b", "function f(): int ~invariant a", "function f(): int requires~", "function f(): int decreases a,~", "function f~[T](): int", "function f(): int ~returns",
		"method ~M()", "method m~", "method m() ~: int", "method m() returns ~x: int", "method m() returns (~)", "method m() returns (x~)", "method m() returns (~ghost x: int)", "method m() returns (x: int,~)", "method m() { return; ~", "method m() { } ~{ }", "method m() ~return", "method m() requires a ~returns (x: int)", "method m() { } ~method n()", "method m() ~;",
	})
}

// TestProgramErrors is for P4.3: the first token that does not continue a program.
func TestProgramErrors(t *testing.T) {
	checkWrong(t, Program, []string{
		"~x", "~;", "import ~a;", "import A~", "import ~A::B;", "import A~, B;", "export x ~y;", "export x,~;", "export ~1;", "export + ~;", "export ~M::f;", "export ~if;", "export x~", "export +~+x;",
		"export x; ~import A;", "export x; ~export y;", "const c: int := 1; ~import A;", "const c: int := 1; ~export c;", "const c: int := 1; ~module A { }", "import A; ~module B { }", "~refines A", "~{ }", "~var x: int;",
		"module ~a { }", "module ~A::B { }", "module A ~;", "module A { ~x }", "module A {~", "module A { } ~;", "module A { } ~const c: int := 1;", "module A { } ~import B;", "module A refines ~b { }", "module A refines B ~refines C { }", "module A { ~module B { } }", "module A { const c: int := 1; ~import B; }", "module A ~imports B { }", "module A refines B~",
	})
}
