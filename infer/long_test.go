package infer

import (
	"slices"
	"strings"
	"testing"

	"entail/api"
)

// nested returns a type of some levels.
func nested(levels int) string {
	return strings.Repeat("seq<", levels-1) + "int" + strings.Repeat(">", levels-1)
}

// TestLongTypes is for P8.2: where types are too long, and where they are just not.
func TestLongTypes(t *testing.T) {
	const more = `
datatype W<A> = V(f: Pair<A, A>)
function twice<A>(x: A, y: seq<A>): int
function make<A>(x: A): Pair<A, A>
function same<A>(x: A, y: A): A
`
	p := programOf(t, samples+names()+more)
	for _, c := range []struct {
		length int // of the type of v
		s, at  string
		among  int
		want   api.Errno
	}{
		{400, "v", "", 0, api.OK}, {395, "[v]", "", 0, api.OK},
		// in the end at the first node, otherwise at the node above
		{396, "[v]", "[v]", 0, api.ErrLong}, {396, "[[v]]", "[[v]]", 0, api.ErrLong}, {390, "[[v]]", "", 0, api.OK}, {391, "[[v]]", "[[v]]", 0, api.ErrLong}, {391, "[[[v]]]", "[[[v]]]", 0, api.ErrLong}, {396, "[v][0]", "[v][0]", 0, api.ErrLong}, {396, "#[v]", "#[v]", 0, api.ErrLong}, {396, "fresh([v])", "fresh([v])", 0, api.ErrLong}, {396, "old([v])", "old([v])", 0, api.ErrLong}, {396, "[v].head", "[v].head", 0, api.ErrLong}, {396, "[v].Nil?", "[v].Nil?", 0, api.ErrLong},
		{396, "[v] == [v]", "[v] == [v]", 0, api.ErrLong}, {396, "1 == [v]", "1 == [v]", 0, api.ErrLong}, {396, "[v] + [v]", "[v] + [v]", 0, api.ErrLong}, {396, "if b then [v] else [v]", "if b then [v] else [v]", 0, api.ErrLong}, {396, "if [v] then b else b", "if [v] then b else b", 0, api.ErrLong}, {396, "var i := [v]; 1", "var i := [v]; 1", 0, api.ErrLong}, {396, "var i := [v]; i == o", "o", 0, api.ErrUnknown}, {396, "var i := [v]; [i]", "[i]", 0, api.ErrLong}, {396, "var i := [v]; i", "var i := [v]; i", 0, api.ErrLong},
		// before all else that is asked of a node, behind its children
		{396, "o([v])", "o([v])", 0, api.ErrLong}, {396, "len([v], 1)", "len([v], 1)", 0, api.ErrLong}, {396, "len([v], o)", "o", 0, api.ErrUnknown}, {396, "Nope([v])", "Nope([v])", 0, api.ErrLong}, {396, "Cons([v])", "Cons([v])", 0, api.ErrLong}, {396, "[v].nope", "[v].nope", 0, api.ErrLong}, {396, "[v].Nope?", "[v].Nope?", 0, api.ErrLong}, {396, "-[v]", "-[v]", 0, api.ErrLong}, {396, "([v] as int)", "([v] as int)", 0, api.ErrLong}, {396, "[1, b, [v]]", "[1, b, [v]]", 0, api.ErrLong},
		// children of triggers and cases
		{396, "forall i: int {[v]} :: b", "forall i: int {[v]} :: b", 0, api.ErrLong}, {396, "exists i: int {b, [v]} {1} :: 1", "exists i: int {b, [v]} {1} :: 1", 0, api.ErrLong}, {396, "forall i: int :: [v]", "forall i: int :: [v]", 0, api.ErrLong}, {396, "set i: int | b :: [v]", "set i: int | b :: [v]", 0, api.ErrLong}, {396, "set i: int | b :: v", "set i: int | b :: v", 0, api.ErrLong}, {395, "set i: int | b :: v", "", 0, api.OK}, {396, "match x { case 0 => 1 case _ => [v] }", "match x { case 0 => 1 case _ => [v] }", 0, api.ErrLong}, {396, "match [v] { case i => 1 }", "match [v] { case i => 1 }", 0, api.ErrLong},
		// patterns
		{396, "match [v] { case Nil => 1 }", "Nil", 0, api.ErrLong}, {396, "match [v] { case 0 => 1 }", "0", 1, api.ErrLong}, {396, "match [v] { case Cons(o) => 1 }", "Cons(o)", 0, api.ErrArgs}, {396, "match [v] { case Nope => o }", "Nope", 0, api.ErrUnknown}, {396, "match [v] { case i => o }", "o", 0, api.ErrUnknown},
		// where types are unified
		{395, "twice(v, [])", "", 0, api.OK}, {396, "twice(v, [])", "twice(v, [])", 0, api.ErrLong}, {396, "twice(v, 1)", "twice(v, 1)", 0, api.ErrLong}, {395, "twice(v, 1)", "twice(v, 1)", 0, api.ErrType}, {396, "twice(1, v)", "twice(1, v)", 0, api.ErrType}, {394, "Cons(v, Nil)", "", 0, api.OK}, {395, "Cons(v, Nil)", "Cons(v, Nil)", 0, api.ErrLong}, {395, "Cons(v, 1)", "Cons(v, 1)", 0, api.ErrLong}, {394, "Cons(v, 1)", "Cons(v, 1)", 0, api.ErrType},
		// results
		{196, "make(v)", "", 0, api.OK}, {197, "make(v)", "make(v)", 0, api.ErrLong}, {197, "make(v).fst", "make(v).fst", 0, api.ErrLong}, {196, "make(v).fst", "", 0, api.OK}, {300, "(var i := V(o); v)", "o", 0, api.ErrUnknown}, {196, "V(Two(v, v)).f.fst", "", 0, api.OK}, {98, "make(make(v))", "make(make(v))", 0, api.ErrLong}, {94, "make(make(v))", "", 0, api.OK},
		// a variable that is not known counts 1, and is one level
		{388, "var i := [][0]; [map[i := v]]", "[]", 0, api.ErrOpen}, {389, "var i := [][0]; [map[i := v]]", "var i := [][0]; [map[i := v]]", 0, api.ErrLong},
		// heads are asked before lengths, lengths before what is open
		{395, "[-b, o]", "o", 0, api.ErrUnknown}, {197, "[make(v).fst == v, b, 1]", "make(v).fst", 0, api.ErrLong},
	} {
		e := expressionOf(t, c.s)
		at := 0
		if c.at != "" {
			at = place(t, e, 0, c.at, c.among)
		}
		vars := append(variables(), api.Bound{Name: "v", Sort: long(c.length)})
		if len(vars[len(vars)-1].Sort) != c.length {
			t.Fatalf("the type %q has not the length %d", long(c.length), c.length)
		}
		if _, node, errno := Expression(p, e, vars); node != at || errno != c.want {
			t.Errorf("Expression(%q) for %d bytes: %d, %d, want %d, %d", c.s, c.length, node, errno, at, c.want)
		}
	}
}

// TestDeepTypes is for P8.2: types that are nested too deeply.
func TestDeepTypes(t *testing.T) {
	p := programOf(t, samples)
	for _, c := range []struct {
		levels int // of the type of v
		s, at  string
		want   api.Errno
	}{
		{60, "v", "", api.OK}, {59, "[v]", "", api.OK}, {60, "[v]", "[v]", api.ErrLong}, {57, "[[[v]]]", "", api.OK}, {57, "[[[[v]]]]", "[[[[v]]]]", api.ErrLong}, {57, "[[[[[v]]]]]", "[[[[[v]]]]]", api.ErrLong}, {60, "v[0]", "", api.OK}, {60, "#[v]", "#[v]", api.ErrLong},
		{58, "var i := [][0]; [{i}] == 1 && [v] == []", "[{i}] == 1", api.ErrType},
	} {
		e := expressionOf(t, c.s)
		at := 0
		if c.at != "" {
			at = place(t, e, 0, c.at, 0)
		}
		if _, node, errno := Expression(p, e, []api.Bound{{Name: "v", Sort: nested(c.levels)}}); node != at || errno != c.want {
			t.Errorf("Expression(%q) for %d levels: %d, %d, want %d, %d", c.s, c.levels, node, errno, at, c.want)
		}
	}
	deep := expressionOf(t, strings.Repeat("[", 59)+strings.Repeat("]", 59))
	if _, node, e := Expression(p, deep, nil); node != 0 || e != api.ErrOpen {
		t.Errorf("59 displays in each other: %d, %d", node, e)
	}
	deep = expressionOf(t, strings.Repeat("[", 60)+strings.Repeat("]", 60))
	if _, node, e := Expression(p, deep, nil); node != 59 || e != api.ErrLong {
		t.Errorf("60 displays in each other: %d, %d", node, e)
	}
}

// TestLongFlows is for P8.3: flows whose types are too long while their bases are not.
func TestLongFlows(t *testing.T) {
	subset := "Small" + strings.Repeat("l", 19)
	declarations := samples + names() + "type " + subset + " = x: int | true witness 0 datatype V<A> = W(f: Pair<A, " + subset + ">) function take<A>(x: V<A>): int method give<A>(x: Pair<A, " + subset + ">) "
	for length, want := range map[int]api.Errno{369: api.OK, 370: api.ErrLong, 390: api.ErrLong} {
		for s, text := range map[string]string{
			"function f(x: " + long(length) + "): int { take(W(Two(x, 1))) }":                   "Two(x, 1)",
			"method m(x: " + long(length) + ") { call give(Two(x, 1)); }":                       "Two(x, 1)",
			"function f(x: " + long(length) + "): bool { take(W(Two(x, 1))) == 1 }":             "Two(x, 1)",
			"function f(x: " + long(length) + "): bool { [] == [] || take(W(Two(x, 1))) == 1 }": "open",
		} {
			p := programOf(t, declarations+s)
			node, e := errnos(t, p)
			at, due := 0, want
			switch {
			case text == "open":
				at, due = place(t, p, len(programOf(t, samples)), "[]", 0), api.ErrOpen
			case want != api.OK:
				at = place(t, p, 0, text, 0)
			}
			if node != at || e != due {
				t.Errorf("%d: %q: %d, %d, want %d, %d", length, s[len(s)-40:], node, e, at, due)
			}
		}
	}
}

// TestSharedTypes is for P1: types that double again and again take neither time nor memory, and are too long in the end.
func TestSharedTypes(t *testing.T) {
	var letters []string // type parameters, as many as a type of 400 bytes has room for
	for i := range 39 {
		letters = append(letters, string(rune('A'+i%26))+strings.Repeat("a", i/26))
	}
	backwards := slices.Clone(letters[:38])
	slices.Reverse(backwards)
	for name, order := range map[string][]string{"forwards": letters[:38], "backwards": backwards} {
		one := "Tu<" + strings.Join(order, ",") + ">"
		var list []string
		for _, letter := range order {
			next := letters[slices.Index(letters, letter)+1]
			list = append(list, "map<"+next+","+next+">")
		}
		pairs := "Tu<" + strings.Join(list, ",") + ">"
		if len(pairs) > maxLength {
			t.Fatalf("%d bytes", len(pairs))
		}
		all := "<" + strings.Join(letters, ",") + ">"
		text := "datatype Tu<" + strings.Join(letters[:38], ",") + "> = Mk function double" + all + "(x: " + one + ", y: " + pairs + "): " + one + " function one" + all + "(x: " + one + "): int function pairs" + all + "(x: " + pairs + "): int"
		p := programOf(t, text)
		for _, s := range []string{"var t := Mk; double(t, t)", "var t := Mk; one(t) + pairs(t)", "var t := Mk; pairs(t) + one(t)", "var t := Mk; double(t, t) == double(t, t)", "var t := Mk; var u := double(t, t); double(u, u)", "var t := Mk; var u := Mk; double(t, t) == double(u, u) && t == u"} {
			if _, _, e := Expression(p, expressionOf(t, s), nil); e != api.ErrLong && e != api.ErrOpen && e != api.ErrType {
				t.Errorf("%s: %q: %d", name, s, e)
			}
		}
	}
	// two types that double, equal in their structure alone
	var back []string
	for i := range 38 {
		back = append(back, "map<"+letters[i+1]+","+letters[i+1]+">")
	}
	all := "<" + strings.Join(letters, ",") + ">"
	tuple := "Tu<" + strings.Join(letters[:38], ",") + ">"
	p := programOf(t, "datatype "+tuple+" = Mk function both"+all+"(x: "+tuple+", y: Tu<"+strings.Join(back, ",")+">, z: "+letters[0]+"): int")
	for _, s := range []string{"var i := [][0]; both(Mk, Mk, i) + both(Mk, Mk, i)", "var t := Mk; var i := [][0]; both(t, t, i) + both(Mk, t, i)", "var t := Mk; var u := Mk; var i := [][0]; both(t, t, i) + both(u, u, i)"} {
		if _, _, e := Expression(p, expressionOf(t, s), nil); e != api.ErrLong && e != api.ErrOpen {
			t.Errorf("%q: %d", s, e)
		}
	}
}
