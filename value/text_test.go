package value

import (
	"math/rand"
	"strings"
	"testing"

	"entail/api"
)

// TestTexts is for P6.2: strings of all kinds.
func TestTexts(t *testing.T) {
	one := api.Value{Kind: api.VInt, Num: "1"}
	for want, v := range map[string]api.Value{
		"true": {Num: "1"}, "false": {Num: "0"}, "1": one, "-7": {Kind: api.VInt, Num: "-7"}, "-3/4": {Kind: api.VReal, Num: "-3/4"}, "5bv8": {Kind: api.VBits, Num: "5", Text: "8"}, "#3": {Kind: api.VRef, Num: "3"},
		"[]": {Kind: api.VSeq}, "{}": {Kind: api.VSet}, "multiset{}": {Kind: api.VMulti}, "map[]": {Kind: api.VMap}, "A()": {Kind: api.VCons, Text: "A"}, "M::Cons(1, M::Nil())": {Kind: api.VCons, Text: "M::Cons", Items: []api.Value{one, {Kind: api.VCons, Text: "M::Nil"}}},
		"[1, [1], 1]": {Kind: api.VSeq, Items: []api.Value{one, {Kind: api.VSeq, Items: []api.Value{one}}, one}}, "{1}": {Kind: api.VSet, Items: []api.Value{one}}, "multiset{1, 1}": {Kind: api.VMulti, Items: []api.Value{one, one}},
		"map[false := 1, true := [1]]": {Kind: api.VMap, Items: []api.Value{{Num: "0"}, one, {Num: "1"}, {Kind: api.VSeq, Items: []api.Value{one}}}}, "true(1)": {Kind: api.VCons, Text: "true", Items: []api.Value{one}},
	} {
		if got, e := Text(v); got != want || e != api.OK {
			t.Errorf("Text: %q, %d, want %q", got, e, want)
		}
		if got, at, e := ParseText(want); !same(got, v) || at != 0 || e != api.OK {
			t.Errorf("ParseText(%q): %v, %d, %d", want, got, at, e)
		}
	}
	if s, e := Text(of("[1, {1, 1}]")); s != "" || e != api.ErrOrder {
		t.Errorf("Text of a value that is not well-formed: %q, %d", s, e)
	}
}

// TestNoTexts is for P6.2: the first byte that does not continue the string of a value, which stands behind the tilde.
func TestNoTexts(t *testing.T) {
	for _, s := range []string{
		"~", "~ ", "~ 1", "~+1", "~,", "~]", "~)", "~_a()", "~é", "~\x00", "~/2", "~\"a\"", "1~ ", "12~x", "12~a", "1~.5", "-~", "-~x", "-~-1", "-~-", "1/~", "1/~-2", "1/~/2", "1/2~/3", "-1/2~b", "1/2~bv3", "1b~", "1b~w", "1bv~", "1bv~x", "1bv~-8", "1bv8~x", "1bv8~/2", "-1~bv8", "1~v8", "1~ bv8", "#~", "#~-1", "#~x", "#1~x", "#1~/2", "1~#2",
		"true~ ", "true~]", "true~.", "tru~", "tru~]", "truex~", "false~,", "falsee~ ", "TRUE~", "x~", "x~ ", "x~[", "x~{", "x:~", "x:~(", "x:~ :y()", "x::~", "x::~(", "x::~ y", "x::y~", "x::y~:", "x::y~::z()", "x::1y~", "x(~", "x(1~", "x(1,~", "x(1,~2)", "x(1, ~)", "x(~ 1)", "x(1~ )", "x(1)~x", "x~ (1)", "true::~", "true:~=", "x()~)", "x~-y()",
		"[~", "[1~", "[1,~", "[1, ~", "[1, ~]", "[1,~2]", "[1,~]", "[1~ ]", "[~ ]", "[~,", "[1]~]", "[1~}", "[1~;", "[[1]~", "[[1~)", "[1, 2~ ", "[1, ~ 2]", "[]~ ", "[]~[]",
		"{~", "{1~]", "{1, ~}", "{1~:", "{}~x", "multiset~", "multiset~[", "multiset~ {", "multiset{~", "multiset{1~]", "multiset{1~ }", "multisetx~{", "map~", "map~{", "map~ [", "map[~", "map[1~", "map[1~]", "map[1 ~", "map[1 ~= 2]", "map[1~:=2]", "map[1 :~", "map[1 :~:", "map[1 :=~", "map[1 :=~2]", "map[1 := ~", "map[1 := ~]", "map[1 := 2~", "map[1 := 2~ ", "map[1 := 2,~3", "map[1 := 2, ~]", "map[1 := 2, 3~]", "map[1 := 2, 3~, ", "map[true~,", "map[true:~= 1]", "map[1 := 2~ := 3]", "mapp~[",
	} {
		before, behind, _ := strings.Cut(s, "~")
		if v, at, e := ParseText(before + behind); !isNothing(v) || at != len(before) || e != api.ErrSyntax {
			t.Errorf("ParseText(%q): %v, %d, %d, want ErrSyntax at %d", before+behind, v, at, e, len(before))
		}
	}
}

// TestTextErrors is for P6.2: values that are read, but are not well-formed, and limits.
func TestTextErrors(t *testing.T) {
	ones := func(n int) string { return strings.TrimSuffix(strings.Repeat("1, ", n), ", ") }
	in := func(n int, s string) string { return strings.Repeat("[", n) + s + strings.Repeat("]", n) }
	for i, c := range []struct {
		s    string
		at   int
		want api.Errno
	}{
		{"{2, 1}", 0, api.ErrOrder}, {"{1, 1}", 0, api.ErrOrder}, {"multiset{2, 1}", 0, api.ErrOrder}, {"map[2 := 1, 1 := 2]", 0, api.ErrOrder}, {"map[1 := 1, 1 := 1]", 0, api.ErrOrder},
		{"01", 0, api.ErrForm}, {"-0", 0, api.ErrForm}, {"-01", 0, api.ErrForm}, {"4/2", 0, api.ErrForm}, {"01/2", 0, api.ErrForm}, {"1/02", 0, api.ErrForm}, {"1/0", 0, api.ErrForm}, {"-0/1", 0, api.ErrForm}, {"5bv65", 0, api.ErrForm}, {"5bv0", 0, api.ErrForm}, {"5bv08", 0, api.ErrForm}, {"05bv8", 0, api.ErrForm}, {"9bv2", 0, api.ErrRange}, {"#01", 0, api.ErrForm}, {"#100000", 0, api.ErrForm}, {strings.Repeat("1", 121), 0, api.ErrForm},
		{strings.Repeat("a", 25) + "()", 0, api.ErrForm}, {"A::1()", 0, api.ErrForm}, {"A::_()", 0, api.ErrForm}, {"A::" + strings.Repeat("a", 25) + "()", 0, api.ErrForm}, {"[1, 01]", 0, api.ErrForm},
		{"[" + ones(200) + "]", 0, api.OK}, {"[" + ones(201) + "]", 0, api.ErrMany}, {"A(" + ones(201) + ")", 0, api.ErrMany}, {"[" + ones(201) + "]]", 603, api.ErrSyntax},
		{in(59, "1"), 0, api.OK}, {in(60, "1"), 0, api.ErrDeep}, {in(119, "1"), 0, api.ErrDeep}, {in(120, ""), 0, api.ErrDeep}, {in(120, "1"), 120, api.ErrSyntax}, {in(121, ""), 120, api.ErrSyntax}, {in(500, "1"), 120, api.ErrSyntax}, {strings.Repeat("[1, ", 119) + "[1]", 119*4 + 1, api.ErrSyntax}, {strings.Repeat("a(", 120) + "b()", 240, api.ErrSyntax}, {strings.Repeat("map[", 120) + "1", 480, api.ErrSyntax}, {strings.Repeat("map[", 120) + " :=  := ]" + strings.Repeat(" := 1]", 119), 480, api.ErrSyntax}, {in(120, ", "), 120, api.ErrSyntax}, {strings.Repeat("map[1 := ", 119) + "{", 119*9 + 1, api.ErrSyntax}, {in(119, "x"), 120, api.ErrSyntax},
		{"[" + strings.TrimSuffix(strings.Repeat("["+ones(99)+"], ", 40), ", ") + "]", 0, api.ErrLarge},
		{"[" + strings.TrimSuffix(strings.Repeat("["+ones(99)+"], ", 39), ", ") + "]", 0, api.OK},
		{strings.Repeat("1", 65536), 0, api.ErrForm}, {strings.Repeat("1", 65537), 0, api.ErrLong}, {strings.Repeat("(", 65537), 0, api.ErrLong}, {strings.Repeat("1", 65535) + "x", 65535, api.ErrSyntax},
	} {
		v, at, e := ParseText(c.s)
		if at != c.at || e != c.want || e != api.OK && !isNothing(v) {
			t.Errorf("%d: ParseText(%.40q): %d, %d, want %d, %d", i, c.s, at, e, c.at, c.want)
		}
	}
}

// TestTextsBack is for P6.5: values come back from their strings, and only the one string of a value is read to it.
func TestTextsBack(t *testing.T) {
	m := maker{rand.New(rand.NewSource(62))}
	for range 5000 {
		v := m.value(4)
		s, e := Text(v)
		back, at, f := ParseText(s)
		if e != api.OK || f != api.OK || at != 0 || !same(v, back) {
			t.Fatalf("%q: %d, %d at %d, %v", s, e, f, at, back)
		}
		changed := []byte(s)
		changed[m.Intn(len(changed))] = "0123,: []{}()abv/-#"[m.Intn(19)]
		if other, _, e := ParseText(string(changed)); e == api.OK && text(other) != string(changed) {
			t.Fatalf("ParseText(%q): %q", changed, text(other))
		}
	}
}

// TestPrefixes is for P6.2: the offset of an error is the length of the longest beginning that can be continued; each beginning of a string can.
func TestPrefixes(t *testing.T) {
	m := maker{rand.New(rand.NewSource(63))}
	for range 300 {
		s := text(m.value(4))
		for size := range len(s) {
			if _, at, e := ParseText(s[:size]); e == api.ErrSyntax && at != size {
				t.Fatalf("ParseText(%q): ErrSyntax at %d", s[:size], at)
			}
			if _, at, e := ParseText(s[:size] + "$"); e != api.ErrSyntax || at != size {
				t.Fatalf("ParseText(%q): %d at %d", s[:size]+"$", e, at)
			}
		}
	}
}
