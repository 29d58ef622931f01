package parse

import (
	"strings"
	"testing"

	"entail/api"
)

// nest returns a text in the middle of others that are repeated.
func nest(n int, open, middle, end string) string {
	return strings.Repeat(open, n) + middle + strings.Repeat(end, n)
}

// TestDepth is for P4.1 and P4.2: 60 parts may be inside of each other; one more is ErrDeep at its first token.
func TestDepth(t *testing.T) {
	for _, c := range []struct {
		parse             parserOf
		open, middle, end string
		first             int // where the first part begins that is inside of what the opening text begins
	}{
		{Expression, "(", "x", ")", 1},
		{Expression, "-", "x", "", 1},
		{Expression, "!", "x", "", 1},
		{Expression, "a==>", "x", "", 4},
		{Expression, "if a then b else ", "x", "", 3},
		{Expression, "var x := y; ", "x", "", 9},
		{Expression, "f(", "x", ")", 2},
		{Expression, "x[", "y", "]", 2},
		{Expression, "[", "x", "]", 1},
		{Expression, "map[x := ", "y", "]", 4},
		{Type, "seq<", "int", ">", 4},
		{Type, "map<int, ", "bool", ">", 4},
		{Type, "C<int, ", "bool", ">", 2},
		{Pattern, "C(x, ", "_", ")", 2},
		{Statement, "{", "return;", "}", 1},
	} {
		if _, at, e := c.parse(nest(59, c.open, c.middle, c.end)); at != 0 || e != api.OK {
			t.Errorf("59 times %q: %d at %d", c.open, e, at)
		}
		want := 59*len(c.open) + c.first
		for _, n := range []int{60, 61, 200} {
			if _, at, e := c.parse(nest(n, c.open, c.middle, c.end)); at != want || e != api.ErrDeep {
				t.Errorf("%d times %q: %d at %d, want ErrDeep at %d", n, c.open, e, at, want)
			}
		}
	}
	checkFaults(t, Expression, map[string]fault{
		nest(30, "!(", "x", ")"):        {60, api.ErrDeep},
		nest(30, "!(", "-x", ")"):       {60, api.ErrDeep},
		nest(20, "#(-", "x", ")"):       {60, api.ErrDeep},
		"a + " + nest(60, "-", "x", ""): {64, api.ErrDeep},
	})
	if _, at, e := Expression(nest(29, "!(", "-x", ")")); e != api.OK {
		t.Errorf("29 operands in parentheses: %d at %d", e, at)
	}
}

// TestElseDepth is for P4.2: an `if` behind else is inside of the one before it.
func TestElseDepth(t *testing.T) {
	const open = "if a { } else "
	if _, at, e := Statement(strings.Repeat(open, 58) + "if b { }"); e != api.OK {
		t.Errorf("58 times: %d at %d", e, at)
	}
	condition := fault{59*len(open) + len("if "), api.ErrDeep} // that of the sixtieth
	checkFaults(t, Statement, map[string]fault{
		strings.Repeat(open, 59) + "if b { }": condition,
		strings.Repeat(open, 60) + "if b { }": condition,
		strings.Repeat(open, 99) + "{ }":      condition,
		strings.Repeat(open, 59) + "if ({":    condition,
		strings.Repeat(open, 59) + "if {":     {59*len(open) + len("if "), api.ErrSyntax},
		strings.Repeat(open, 58) + "if {":     {58*len(open) + len("if "), api.ErrSyntax},
		strings.Repeat(open, 59) + "if case":  {59*len(open) + len("if "), api.ErrSyntax},
	})
}

// TestDeepPlaces is for P4.1 and P4.2: the parts that are inside of each other; a token that begins none of them is ErrSyntax at any depth.
func TestDeepPlaces(t *testing.T) {
	in59 := strings.Repeat("(", 59) // what follows is in 59 expressions, and is one
	checkFaults(t, Expression, map[string]fault{
		in59 + "-x":                        {60, api.ErrDeep},
		in59 + "- *":                       {61, api.ErrSyntax},
		in59 + "-#x":                       {60, api.ErrDeep},
		in59 + "--x":                       {60, api.ErrDeep},
		in59[1:] + "-#x)":                  {60, api.ErrDeep},
		in59 + "-true":                     {60, api.ErrDeep},
		in59 + "a ==> b":                   {65, api.ErrDeep},
		in59 + "a ==> if":                  {65, api.ErrSyntax},
		in59 + "(x":                        {60, api.ErrDeep},
		in59 + "(":                         {60, api.ErrSyntax},
		in59 + "()":                        {60, api.ErrSyntax},
		in59 + "x as int":                  {67, api.ErrSyntax}, // the type is beside the expression
		in59 + "x as seq<int":              {68, api.ErrDeep},
		in59 + "forall x: int :: a":        {69, api.ErrDeep},
		in59 + "forall x: int {":           {69, api.ErrDeep},
		in59 + "f(x)":                      {61, api.ErrDeep},
		in59 + "f(]":                       {61, api.ErrSyntax},
		in59 + "f(if":                      {61, api.ErrDeep},
		in59 + "f(match":                   {61, api.ErrDeep},
		in59 + "f(multiset":                {61, api.ErrDeep},
		in59 + "f(1.5":                     {61, api.ErrDeep},
		in59 + "f(bool":                    {61, api.ErrSyntax},
		in59 + "x[0]":                      {61, api.ErrDeep},
		in59[1:] + "f(seq<int>)":           {60, api.ErrSyntax},
		in59[1:] + "match a { case C(x)":   {75, api.ErrDeep},
		in59[1:] + "match a { case C(-":    {75, api.ErrDeep},
		in59[1:] + "match a { case C(_":    {75, api.ErrDeep},
		in59[1:] + "match a { case C(0":    {75, api.ErrDeep},
		in59[1:] + "match a { case C(D":    {75, api.ErrDeep},
		in59[1:] + "match a { case C(M::x": {75, api.ErrSyntax},
		in59[1:] + "match a { case C(1.5":  {75, api.ErrSyntax},
		in59[1:] + "(x as seq<int>)":       {68, api.ErrDeep},
		in59[1:] + "(x as seq<x>)":         {68, api.ErrSyntax},
		in59[1:] + "(x as seq<bv8>)":       {68, api.ErrDeep},
		in59[1:] + "(x as seq<M::C>)":      {68, api.ErrDeep},
		in59[1:] + "(x as seq<map":         {68, api.ErrDeep},
	})
	for _, s := range []string{"f()", "C", "a && b || c == d + e * 2", "a.f.C?", "[]", "map[]"} {
		if _, at, e := Expression(in59 + s + strings.Repeat(")", 59)); e != api.OK {
			t.Errorf("%s in 59 parentheses: %d at %d", s, e, at)
		}
	}
}

// TestDeepStatements is for P4.2: what is inside of 60 statements.
func TestDeepStatements(t *testing.T) {
	in59 := strings.Repeat("{", 59)
	checkFaults(t, Statement, map[string]fault{
		in59 + "print a;":                {65, api.ErrDeep},
		in59 + "print ;":                 {65, api.ErrSyntax},
		in59 + "{return;":                {60, api.ErrDeep},
		in59 + "{reveal":                 {60, api.ErrDeep},
		in59 + "{x":                      {60, api.ErrDeep},
		in59 + "{(":                      {60, api.ErrDeep},
		in59 + "{;":                      {60, api.ErrSyntax},
		in59 + "{case":                   {60, api.ErrSyntax},
		in59 + "{-":                      {60, api.ErrSyntax},
		in59 + "var x: int;":             {66, api.ErrDeep},
		in59 + "x := new C<int>(":        {70, api.ErrDeep},
		in59 + "x := new C(y)":           {70, api.ErrDeep},
		in59 + "x := new array<int>(":    {74, api.ErrDeep},
		in59 + "x.f := a;":               {66, api.ErrDeep},
		in59 + "x[a] := b;":              {61, api.ErrDeep},
		in59 + "match":                   {64, api.ErrSyntax},
		in59 + "while a":                 {65, api.ErrDeep},
		in59[1:] + "while a { return;":   {75, api.ErrSyntax},
		in59[1:] + "if a { if b":         {68, api.ErrDeep},
		in59[1:] + "if a { } else if b ": {75, api.ErrDeep},
	})
}

// TestLimits is for P4.1: the limits of texts, chains and trees.
func TestLimits(t *testing.T) {
	long := "x" + strings.Repeat(" ", api.MaxText)
	sum := func(n int) string { return "x" + strings.Repeat("+x", n) }
	chain := func(n int) string { return "x" + strings.Repeat("<x", n) }
	checkFaults(t, Expression, map[string]fault{
		long:                             {0, api.ErrLong},
		"x + $":                          {4, api.ErrSyntax},
		") $":                            {2, api.ErrSyntax},
		"x y " + strings.Repeat("a", 25): {4, api.ErrName},
		"03":                             {0, api.ErrSyntax},
		"x /* y":                         {2, api.ErrSyntax},
		strings.Repeat("-", 20001):       {20000, api.ErrMany},
		sum(60):                          {119, api.ErrDeep}, // at its last operator
		sum(2000):                        {0, api.ErrMany},
		chain(60):                        {119, api.ErrDeep},
		chain(1000):                      {119, api.ErrDeep},
		chain(1001):                      {2001, api.ErrMany},
		chain(999) + "<-x":               {119, api.ErrDeep}, // just 4000 nodes
		chain(999) + "<--x":              {1999, api.ErrMany},
		chain(1001) + ")":                {2001, api.ErrMany},
		chain(1001) + "+":                {2004, api.ErrSyntax},
		chain(1000) + "<(x;":             {2004, api.ErrSyntax},
		chain(1000) + "!=x":              {2001, api.ErrSyntax},
		chain(3000) + "$":                {6001, api.ErrSyntax},
		"f(" + chain(1001) + ")":         {2003, api.ErrMany},
		"(" + sum(1999) + ")<x":          {0, api.ErrMany},
		"(" + sum(1999) + ")<x<y":        {4003, api.ErrMany},
		"x<(" + sum(1000) + ")<y":        {2005, api.ErrMany},
		"x<(" + sum(1000) + ")<y in z":   {2005, api.ErrMany},
		"x in (" + sum(1000) + ") in y":  {2009, api.ErrSyntax},
		strings.Repeat("(x<", 40) + "x" + strings.Repeat("<x)", 40): {148, api.ErrMany},
	})
}

// TestMostNodes is for P4.1: a tree may have 4000 nodes.
func TestMostNodes(t *testing.T) {
	list := func(n int) string { return "[x" + strings.Repeat(",x", n-1) + "]" }
	if tree, at, e := Expression(list(3999)); len(tree) != 4000 || at != 0 || e != api.OK {
		t.Errorf("4000 nodes: %d, %d at %d", len(tree), e, at)
	}
	checkFaults(t, Expression, map[string]fault{list(4000): {0, api.ErrMany}, "-" + list(3999): {0, api.ErrMany}})
}

// TestTreeErrors is for P4.1, P4.2 and P4.3: at the end, the errors of the tree, at the place of its node.
func TestTreeErrors(t *testing.T) {
	many := strings.Repeat("1", 121)
	checkFaults(t, Expression, map[string]fault{
		"x + 1.50":                     {4, api.ErrName},
		"1.0 + 0.00":                   {6, api.ErrName},
		"f(" + many + ")":              {2, api.ErrName},
		"1." + strings.Repeat("1", 39): {0, api.ErrName},
		many + " + 1.50":               {0, api.ErrName},
		" forall a: int, b: int, c: int, d: int, e: int :: a": {1, api.ErrShape},
		"x == (exists x: int {a} {b} {c} {d} {e} :: a)":       {6, api.ErrShape},
	})
	checkFaults(t, Pattern, map[string]fault{"C(x, -" + many + ")": {6, api.ErrName}})
	checkFaults(t, Statement, map[string]fault{
		"while a modifies b { print 1.10; }":                              {27, api.ErrName},
		"forall a: int, b: int, c: int, d: int, e: int | a ensures b { }": {0, api.ErrShape},
	})
	checkFaults(t, Declaration, map[string]fault{
		"function f(): int modifies a":              {0, api.ErrForm},
		" ghost function f(): int modifies a { b }": {1, api.ErrForm},
		"ghost method m() reads a":                  {0, api.ErrForm},
		"method m() requires 1.10 reads a":          {20, api.ErrName},
	})
	checkFaults(t, Program, map[string]fault{
		"module A { const c: int := 1; function f(): int modifies a }": {30, api.ErrForm},
		strings.Repeat("const c: int := 1;", 1400):                     {0, api.ErrMany},
	})
}

// TestTwice is for P4.2: a second decreases clause is an error at its keyword, before all that follows.
func TestTwice(t *testing.T) {
	checkFaults(t, Statement, map[string]fault{
		"while a decreases b decreases c { }":                 {20, api.ErrTwice},
		"while a decreases b invariant c decreases decreases": {32, api.ErrTwice},
		"while a decreases b; decreases":                      {19, api.ErrSyntax},
	})
	checkFaults(t, Declaration, map[string]fault{
		"function f(): int decreases a, b reads c decreases":         {41, api.ErrTwice},
		"method m() decreases a decreases b { $ }":                   {37, api.ErrSyntax}, // no tokens
		"method m() decreases a decreases b }":                       {23, api.ErrTwice},
		"method m() decreases a { while b decreases c { } decreases": {49, api.ErrSyntax},
	})
	for _, s := range []string{"method m() decreases a { while b decreases c { } while b decreases c { } }", "function f(): int decreases a, b, c"} {
		if _, at, e := Declaration(s); e != api.OK {
			t.Errorf("%q: %d at %d", s, e, at)
		}
	}
}
