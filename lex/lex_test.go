package lex

import (
	"math/rand"
	"slices"
	"strconv"
	"strings"
	"testing"

	"entail/api"
)

// show returns the tokens as kinds and texts.
func show(l []Token) string {
	var out []string
	for _, x := range l {
		out = append(out, strconv.Itoa(x.Kind)+x.Text)
	}
	return strings.Join(out, " ")
}

// TestTokens is for P3.1: tokens of all kinds, comments, and the longest sign.
func TestTokens(t *testing.T) {
	for s, want := range map[string]string{
		"":                              "",
		" \t\r\n":                       "",
		"// only":                       "",
		"/* a\nb */ x //c\ny /**/ z":    "0x 0y 0z",
		"/*/ */x":                       "0x",
		"/* // */ x":                    "0x",
		"// /*\nx":                      "0x",
		"a/b":                           "0a 4/ 0b",
		"a*/b":                          "0a 4* 4/ 0b",
		"s[0..n]":                       "0s 4[ 20 4.. 0n 4]",
		"1.x":                           "21 4. 0x",
		"1.5.x":                         "31.5 4. 0x",
		"1..2":                          "21 4.. 22",
		"1...5":                         "21 4.. 4. 25",
		"0":                             "20",
		"0.0 0.50 10":                   "30.0 30.50 210",
		"if iff If":                     "1if 0iff 0If",
		"bv0 bv1 bv64 bv65 bv01 bv100":  "0bv0 1bv1 1bv64 0bv65 0bv01 0bv100",
		"bv bv9 bv10 BV8":               "0bv 1bv9 1bv10 0BV8",
		"x_1 x__ X_y":                   "0x_1 0x__ 0X_y",
		"_ C(_,_)":                      "4_ 0C 4( 4_ 4, 4_ 4)",
		"_x __ _1 _if _X_y":             "4_ 0x 4_ 4_ 4_ 21 4_ 1if 4_ 0X_y",
		"_1.5 _bv8 _bv65 ___x_":         "4_ 31.5 4_ 1bv8 4_ 0bv65 4_ 4_ 4_ 0x_",
		"_M::f M::_f _::f a/**/_//_x":   "4_ 0M::f 0M 4:: 4_ 0f 4_ 4:: 0f 0a 4_",
		"M::f M::F m::f":                "0M::f 0M::F 0m 4:: 0f",
		"M ::f M:: f M:f":               "0M 4:: 0f 0M 4:: 0f 0M 4: 0f",
		"M::if M::bv8 M::bv65 M::1":     "0M 4:: 1if 0M 4:: 1bv8 0M::bv65 0M 4:: 21",
		"A::B::c":                       "0A::B 4:: 0c",
		"a<==>b<==c<=>d":                "0a 4<==> 0b 4<= 4= 0c 4<= 4> 0d",
		"===>":                          "4== 4=>",
		"x:|y:||z:::w":                  "0x 4:| 0y 4:| 4| 0z 4:: 4: 0w",
		"!a!=b!in":                      "4! 0a 4!= 0b 4! 1in",
		"a&&&b|||c>>>d<<<e":             "0a 4&& 4& 0b 4|| 4| 0c 4>> 4> 0d 4<< 4< 0e",
		"abcdefghijklmnopqrstuvwx(":     "0abcdefghijklmnopqrstuvwx 4(",
		"Abcdefghijklmnopqrstuvwx::b_3": "0Abcdefghijklmnopqrstuvwx::b_3",
		"A::Abcdefghijklmnopqrstuvwx":   "0A::Abcdefghijklmnopqrstuvwx",
		"/*\xff\x00$*/ a //\xc3":        "0a",
	} {
		l, at, e := Tokens(s)
		if got := show(l); got != want || at != 0 || e != api.OK {
			t.Errorf("Tokens(%q): %s, %d, %d, want %s", s, got, at, e, want)
		}
	}
}

// TestTokenPlaces is for P3.1: offsets.
func TestTokenPlaces(t *testing.T) {
	l, _, e := Tokens("x := M::f(3, 1.5); // end")
	want := []int{0, 2, 5, 9, 10, 11, 13, 16, 17}
	var got []int
	for _, x := range l {
		got = append(got, x.At)
	}
	if e != api.OK || !slices.Equal(got, want) {
		t.Errorf("%v, %d, want %v", got, e, want)
	}
}

// TestUnderscorePlaces is for P3.1: an underscore is a token by itself, and reading goes on behind it.
func TestUnderscorePlaces(t *testing.T) {
	l, at, e := Tokens("a __if_1 (_x)")
	want := []Token{{Name, "a", 0}, {Sign, "_", 2}, {Sign, "_", 3}, {Name, "if_1", 4}, {Sign, "(", 9}, {Sign, "_", 10}, {Name, "x", 11}, {Sign, ")", 12}}
	if at != 0 || e != api.OK || !slices.Equal(l, want) {
		t.Errorf("%v, %d, %d, want %v", l, at, e, want)
	}
	for _, s := range []string{"", "x", "_", "if", "M::f", "7", "1.5", "03", "3_", ":=", "_$", " y", "/* */z", "/* x", strings.Repeat("a", 25)} {
		rest, place, wrong := Tokens(s)
		l, at, e := Tokens("_" + s)
		if wrong != api.OK {
			if len(l) != 0 || at != place+1 || e != wrong {
				t.Errorf("Tokens(%q): %v, %d, %d, want %d at %d", "_"+s, l, at, e, wrong, place+1)
			}
			continue
		}
		want := []Token{{Kind: Sign, Text: "_"}}
		for _, x := range rest {
			want = append(want, Token{x.Kind, x.Text, x.At + 1})
		}
		if at != 0 || e != api.OK || !slices.Equal(l, want) {
			t.Errorf("Tokens(%q): %v, %d, %d, want %v", "_"+s, l, at, e, want)
		}
	}
}

// TestTokenErrors is for P3.1: the first error and its offset, and the limits.
func TestTokenErrors(t *testing.T) {
	long := strings.Repeat("a", 25)
	for s, want := range map[string]struct {
		at int
		e  api.Errno
	}{
		"03":                                {0, api.ErrSyntax},
		"03.5":                              {0, api.ErrSyntax},
		"a 00.0":                            {2, api.ErrSyntax},
		"x 00":                              {2, api.ErrSyntax},
		"3x":                                {0, api.ErrSyntax},
		"a 3_":                              {2, api.ErrSyntax},
		"1.5x":                              {0, api.ErrSyntax},
		"1.5_":                              {0, api.ErrSyntax},
		"a $ b":                             {2, api.ErrSyntax},
		"a @":                               {2, api.ErrSyntax},
		"'":                                 {0, api.ErrSyntax},
		"~":                                 {0, api.ErrSyntax},
		"_$":                                {1, api.ErrSyntax},
		"a _1x":                             {3, api.ErrSyntax},
		"__03":                              {2, api.ErrSyntax},
		"1.5__":                             {0, api.ErrSyntax},
		"_/*":                               {1, api.ErrSyntax},
		"_" + long:                          {1, api.ErrName},
		"_A::" + long:                       {1, api.ErrName},
		"é":                                 {0, api.ErrSyntax},
		"x\x00":                             {1, api.ErrSyntax},
		"x\v":                               {1, api.ErrSyntax},
		"/* x":                              {0, api.ErrSyntax},
		"a /*/":                             {2, api.ErrSyntax},
		"a/*b*/c /* *":                      {8, api.ErrSyntax},
		long:                                {0, api.ErrName},
		"a " + long:                         {2, api.ErrName},
		"a A::" + long:                      {2, api.ErrName},
		"a A" + long + "::b":                {2, api.ErrName},
		"a A" + long + "::if":               {2, api.ErrName},
		"$ " + long:                         {0, api.ErrSyntax},
		long + " $":                         {0, api.ErrName},
		"a::" + long:                        {3, api.ErrName},
		strings.Repeat(" ", 65537):          {0, api.ErrLong},
		strings.Repeat("$", 65537):          {0, api.ErrLong},
		strings.Repeat(";", 20001):          {20000, api.ErrMany},
		strings.Repeat(";", 20002) + "$":    {20002, api.ErrSyntax},
		strings.Repeat("; ", 20001) + "; ;": {40000, api.ErrMany},
	} {
		l, at, e := Tokens(s)
		if len(l) != 0 || at != want.at || e != want.e {
			t.Errorf("Tokens(%.30q): %d tokens, %d, %d, want %v", s, len(l), at, e, want)
		}
	}
	for s, want := range map[string]int{strings.Repeat(" ", 65536): 0, strings.Repeat(";", 20000): 20000} {
		if l, at, e := Tokens(s); len(l) != want || at != 0 || e != api.OK {
			t.Errorf("Tokens(%.30q): %d tokens, %d, %d", s, len(l), at, e)
		}
	}
}

// TestLists compares the lists with those of the document. (P3.1)
func TestLists(t *testing.T) {
	keywords := strings.Fields("array as assert assume bool by calc call case class const datatype decreases else ensures exists export false forall fresh function fuel ghost greatest hidden if import in int invariant least lemma map match method modifies module multiset new old opaque print reads real refines requires return returns reveal seq set then true type var while witness")
	signs := strings.Fields("! != # % & && ( ) * + , - . .. / : :: := :| ; < <= <==> << = == ==> => > >= >> ? [ ] ^ { | || }")
	slices.Sort(keywords)
	slices.Sort(signs)
	if !slices.Equal(Keywords(), keywords) {
		t.Errorf("Keywords: %v", Keywords())
	}
	if !slices.Equal(Signs(), signs) {
		t.Errorf("Signs: %v", Signs())
	}
	for kind, list := range map[int][]string{Keyword: keywords, Sign: append(signs, "_")} {
		for _, s := range list {
			if l, _, e := Tokens(s); e != api.OK || len(l) != 1 || l[0] != (Token{Kind: kind, Text: s}) {
				t.Errorf("Tokens(%q): %v, %d", s, l, e)
			}
		}
	}
	Keywords()[0], Signs()[0] = "x", "x"
	if Keywords()[0] != "array" || Signs()[0] != "!" {
		t.Error("the lists are shared")
	}
}

// TestNames is for P3.2: names, qualified names and keywords.
func TestNames(t *testing.T) {
	for s, want := range map[string][2]bool{
		"x": {true, true}, "X": {true, true}, "x_1": {true, true}, "bv65": {true, true}, "bv0": {true, true}, "bv01": {true, true}, "abcdefghijklmnopqrstuvwx": {true, true},
		"": {}, "_": {}, "_x": {}, "1x": {}, "if": {}, "bv1": {}, "bv64": {}, "x y": {}, " x": {}, "x ": {}, "é": {}, "xé": {}, "x\xff": {}, "x-y": {}, "abcdefghijklmnopqrstuvwxy": {},
		"M::f": {false, true}, "M::F": {false, true}, "Abcdefghijklmnopqrstuvwx::Abcdefghijklmnopqrstuvwx": {false, true},
		"m::f": {}, "M::": {}, "::f": {}, "M:f": {}, "M::f::g": {}, "M::if": {}, "M::bv8": {}, "M ::f": {}, "M::_": {}, "M::1": {}, "Abcdefghijklmnopqrstuvwxy::f": {}, "M::abcdefghijklmnopqrstuvwxy": {},
	} {
		if got := [2]bool{IsName(s), IsGlobal(s)}; got != want {
			t.Errorf("IsName, IsGlobal of %q: %v, want %v", s, got, want)
		}
		module, name, e := Split(s)
		switch {
		case want[0] && (module != "" || name != s || e != api.OK),
			!want[0] && want[1] && (module+"::"+name != s || e != api.OK),
			!want[1] && (module != "" || name != "" || e != api.ErrName):
			t.Errorf("Split(%q): %q, %q, %d", s, module, name, e)
		}
	}
}

// TestNameBytes is for P3.1 and P3.2: which bytes begin a word, and which go on.
func TestNameBytes(t *testing.T) {
	const letters, others = "abcdefghijklmnopqrstuvwxyzABCDEFGHIJKLMNOPQRSTUVWXYZ", "0123456789_"
	for c := range 256 {
		one, two := string([]byte{byte(c)}), string([]byte{'q', byte(c)})
		begins := strings.Contains(letters, one)
		goes := begins || strings.Contains(others, one)
		l, _, e := Tokens(one)
		if IsName(one) != begins || begins != (e == api.OK && len(l) == 1 && l[0].Kind == Name) {
			t.Errorf("%q: %v, %v, %d", one, IsName(one), l, e)
		}
		l, _, e = Tokens(two)
		if IsName(two) != goes || goes != (e == api.OK && len(l) == 1 && l[0].Text == two) {
			t.Errorf("%q: %v, %v, %d", two, IsName(two), l, e)
		}
		if upper := begins && c < 'a'; IsGlobal(one+"::x") != upper {
			t.Errorf("%q is a module: %v", one, !upper)
		}
	}
}

// TestPlaces is for P3.3: both directions, for all places of some texts.
func TestPlaces(t *testing.T) {
	for _, s := range []string{"", "a", "\n", "a\nbcd", "\n\nab\r\n", "\xff\nä", strings.Repeat("\n", 300)} {
		line, column := 1, 1
		for at := range len(s) + 1 {
			l, c, e := Position(s, at)
			if l != line || c != column || e != api.OK {
				t.Errorf("Position(%q, %d): %d, %d, %d, want %d, %d", s, at, l, c, e, line, column)
			}
			if back, e := Offset(s, l, c); back != at || e != api.OK {
				t.Errorf("Offset(%q, %d, %d): %d, %d, want %d", s, l, c, back, e, at)
			}
			column++
			if at < len(s) && s[at] == '\n' {
				line, column = line+1, 1
			}
		}
	}
	for line := -2; line < 6; line++ {
		for column := -2; column < 9; column++ {
			at, e := Offset("a\n\nbcd", line, column)
			exists := line >= 1 && line <= 3 && column >= 1 && column <= []int{0, 2, 1, 4}[line]
			if exists != (e == api.OK) || !exists && (at != 0 || e != api.ErrRange) {
				t.Errorf("Offset(%d, %d): %d, %d", line, column, at, e)
			}
		}
	}
}

// TestPlaceErrors is for P3.3: places that do not exist.
func TestPlaceErrors(t *testing.T) {
	long := strings.Repeat("a", 65537)
	for _, c := range []struct {
		s    string
		at   int
		want api.Errno
	}{{"a", -1, api.ErrRange}, {"a", 2, api.ErrRange}, {"", 1, api.ErrRange}, {long, 0, api.ErrLong}, {long, -1, api.ErrLong}, {long[1:], 65536, api.OK}} {
		line, column, e := Position(c.s, c.at)
		if e != c.want || e != api.OK && (line != 0 || column != 0) {
			t.Errorf("Position(%.5q, %d): %d, %d, %d", c.s, c.at, line, column, e)
		}
	}
	if at, e := Offset(long, 0, 0); at != 0 || e != api.ErrLong {
		t.Errorf("Offset: %d, %d", at, e)
	}
	if at, e := Offset(long[1:], 1, 65537); at != 65536 || e != api.OK {
		t.Errorf("Offset: %d, %d", at, e)
	}
}

// TestJoin is for P3.4: where there are spaces.
func TestJoin(t *testing.T) {
	for s, want := range map[string]string{
		"":                      "",
		"x":                     "x",
		"a < < b":               "a < < b",
		"f(x)":                  "f (x)",
		"f ( a , - 1 ) [ 2 ].g": "f (a, - 1)[2].g",
		"! ! x":                 "!!x",
		"! = x":                 "! = x",
		"! == x":                "! == x",
		"! != x":                "!!= x",
		"!in":                   "!in",
		"# s":                   "#s",
		". . x":                 ". .x",
		". .. x":                ". .. x",
		".. . x":                "...x",
		". 5":                   ". 5",
		"5 . x":                 "5 .x",
		"1 . 5":                 "1 . 5",
		"1.5 . 1.5":             "1.5 . 1.5",
		"1 .. 5":                "1 .. 5",
		"1 [ 2 ] ? ; ,":         "1[2]?;,",
		"x . C ?":               "x.C?",
		"( ) [ ] { }":           "()[] { }",
		"M :: f M::f":           "M :: f M::f",
		"a / / b / * c":         "a / / b / * c",
		"( / /":                 "(/ /",
		"_ ( _ , _ ) _ [":       "_ (_, _) _[",
		"_x":                    "_ x",
		"__":                    "_ _",
		"_1":                    "_ 1",
		"_if_M::f":              "_ if_M :: f",
		"_M::f":                 "_ M::f",
		"(_x)[_1]!__#_.__":      "(_ x)[_ 1] !_ _ #_._ _",
		"_.5 _?_;":              "_. 5 _? _;",
		"if x then // y\n z":    "if x then z",
	} {
		l, _, e := Tokens(s)
		if e != api.OK {
			t.Fatalf("Tokens(%q): %d", s, e)
		}
		if got, e := Join(l); got != want || e != api.OK {
			t.Errorf("Join of %q: %q, %d, want %q", s, got, e, want)
		}
	}
}

// TestJoinErrors is for P3.4: the errors in their order.
func TestJoinErrors(t *testing.T) {
	digits := strings.Repeat("1", 65536)
	good, many := Token{Kind: Name, Text: "x", At: -7}, make([]Token, 20001)
	for _, c := range []struct {
		l    []Token
		want api.Errno
	}{
		{[]Token{{Kind: -1, Text: "x"}}, api.ErrKind}, {[]Token{{Kind: 5, Text: "$"}}, api.ErrKind}, {[]Token{good, {Kind: Name}, {Kind: 9}}, api.ErrForm}, {[]Token{good, {Kind: 9}, {Kind: Name}}, api.ErrKind},
		{[]Token{{Kind: Name, Text: "if"}}, api.ErrForm}, {[]Token{{Kind: Keyword, Text: "x"}}, api.ErrForm}, {[]Token{{Kind: Keyword, Text: "bv65"}}, api.ErrForm}, {[]Token{{Kind: Name, Text: " x"}}, api.ErrForm},
		{[]Token{{Kind: Name, Text: "x "}}, api.ErrForm}, {[]Token{{Kind: Name, Text: "x//"}}, api.ErrForm}, {[]Token{{Kind: Name, Text: "/**/x"}}, api.ErrForm}, {[]Token{{Kind: Name, Text: "x y"}}, api.ErrForm}, {[]Token{{Kind: Name, Text: "m::x"}}, api.ErrForm},
		{[]Token{{Kind: Number, Text: "03"}}, api.ErrForm}, {[]Token{{Kind: Number, Text: "1.5"}}, api.ErrForm}, {[]Token{{Kind: Decimal, Text: "01.5"}}, api.ErrForm}, {[]Token{{Kind: Decimal, Text: "1"}}, api.ErrForm}, {[]Token{{Kind: Decimal, Text: "1."}}, api.ErrForm}, {[]Token{{Kind: Number, Text: "-1"}}, api.ErrForm},
		{[]Token{{Kind: Sign, Text: "$"}}, api.ErrForm}, {[]Token{{Kind: Sign, Text: "//"}}, api.ErrForm}, {[]Token{{Kind: Sign, Text: "<=="}}, api.ErrForm}, {[]Token{{Kind: Name, Text: strings.Repeat("x", 25)}}, api.ErrForm},
		{[]Token{{Kind: Number, Text: digits + "1"}}, api.ErrForm}, {[]Token{{Kind: Number, Text: digits}}, api.OK}, {[]Token{{Kind: Number, Text: digits}, good}, api.ErrLong}, {[]Token{{Kind: Number, Text: digits}, good, {Kind: 7}}, api.ErrKind},
		{many, api.ErrMany}, {many[1:], api.ErrForm},
	} {
		s, e := Join(c.l)
		if e != c.want || e != api.OK && s != "" {
			t.Errorf("Join(%.60q): %.20q, %d, want %d", show(c.l), s, e, c.want)
		}
	}
	var full []Token
	for range 20000 {
		full = append(full, good)
	}
	if s, e := Join(full); len(s) != 39999 || e != api.OK {
		t.Errorf("Join of 20000 tokens: %d bytes, %d", len(s), e)
	}
	if full[5] != good {
		t.Error("Join changes its argument")
	}
}

// TestRoundTrip joins random tokens and splits texts of random pieces. (P3.5)
func TestRoundTrip(t *testing.T) {
	pieces := append(append(Keywords(), Signs()...), Signs()...)
	pieces = append(pieces, "_", "_", ".", ".", "0", "7", "12", "1.5", "0.0", "x", "y_1", "M", "M::f", "N::G", "bv8", "bv65", "in", "e1")
	gaps := []string{" ", "\n", "\t ", "/* c */", "//\n", "  "}
	r := rand.New(rand.NewSource(5))
	for range 3000 {
		var text strings.Builder
		for range r.Intn(12) {
			text.WriteString(pieces[r.Intn(len(pieces))] + gaps[r.Intn(len(gaps))])
		}
		l, _, e := Tokens(text.String())
		if e != api.OK {
			t.Fatalf("Tokens(%q): %d", text.String(), e)
		}
		checkGaps(t, text.String(), l)
		s, e := Join(l)
		if e != api.OK {
			t.Fatalf("Join(%s): %d", show(l), e)
		}
		back, _, e := Tokens(s)
		if e != api.OK || show(back) != show(l) {
			t.Fatalf("Tokens(%q): %s, %d, want %s", s, show(back), e, show(l))
		}
	}
}

// checkGaps checks that each token stands at its offset, with spaces and comments in between only.
func checkGaps(t *testing.T, s string, l []Token) {
	t.Helper()
	end := 0
	for _, x := range append(l, Token{At: len(s)}) {
		if x.At < end || !strings.HasPrefix(s[x.At:], x.Text) {
			t.Fatalf("%q at %d in %q", x.Text, x.At, s)
		}
		if between, _, e := Tokens(s[end:x.At]); len(between) != 0 || e != api.OK {
			t.Fatalf("%q in front of %d in %q", s[end:x.At], x.At, s)
		}
		end = x.At + len(x.Text)
	}
}

// TestAnyBytes reads random bytes: nothing panics, and an error comes with a place in the text. (P1 and P3.5)
func TestAnyBytes(t *testing.T) {
	r := rand.New(rand.NewSource(6))
	for range 20000 {
		b := make([]byte, r.Intn(8))
		for i := range b {
			b[i] = "aZ_09.:/*|<=>!#(\n $\xff\xc3"[r.Intn(21)]
		}
		s := string(b)
		l, at, e := Tokens(s)
		if e != api.OK && (len(l) != 0 || at < 0 || at >= len(s)) || e == api.OK && at != 0 {
			t.Fatalf("Tokens(%q): %v, %d, %d", s, l, at, e)
		}
		if e == api.OK {
			checkGaps(t, s, l)
			joined, wrong := Join(l)
			back, _, e := Tokens(joined)
			if wrong != api.OK || e != api.OK || show(back) != show(l) {
				t.Fatalf("%q is joined to %q, %d, %d", s, joined, wrong, e)
			}
		}
		if e == api.ErrSyntax { // what stands in front of the error can be read
			if _, _, e := Tokens(s[:at]); e != api.OK {
				t.Fatalf("Tokens(%q): %d", s[:at], e)
			}
		}
	}
}
