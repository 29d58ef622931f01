package types

import (
	"math/rand"
	"slices"
	"strconv"
	"strings"
	"testing"

	"entail/api"
	"entail/tree"
)

// ranked are datatypes whose constructors have different ranks.
const ranked = `
datatype Numbered = Number(n: int) | Zero
datatype Flip = A1(n: Nat) | B1(m: int)
datatype Turn = A2(n: Color) | B2(m: Nat)
datatype Even = A3(n: int) | B3(m: Color)
datatype Tie = A4(l: Late) | B4(m: Wrap)
datatype Late = A5(w: Wrap)
datatype Wrap = A6(c: Color, n: Numbered)
datatype Tree<T> = Node(left: Tree<T>, value: T, right: Tree<T>) | Leaf(value: T)
datatype Ring = ToLink(l: Link)
datatype Link = ToRing(r: Ring) | Pearl(b: bool)
datatype Endless = Both(a: Endless, b: int) | Again(a: Endless)
datatype Grow<T> = Stop | More1(g: Grow<seq<T>>)
datatype Only<T> = Just(f: T)
datatype Lost = Find(u: Unknown) | Ask(u: M::Unknown<int>)
datatype Open = Shut(u: Unknown) | Ajar(c: seq<Unknown>)
datatype Wrong = Bad(l: List) | Good
datatype Held = Hold(s: seq<List>, n: bool)
datatype Object = Field1(c: Cell) | Item(a: array<int>) | Full(m: map<Cell,array<int>>)
type Few = n: Numbered | true witness if true then Number(7) else Zero
type Void = l: Loop | true witness l
type Odd = x: int | true witness M::limit[0 .. #x]
datatype Uses = Use(n: Nat, f: Few, c: Color)
`

// TestDefault is for P5.3: default expressions of all kinds of types; of constructors the first one of the least rank.
func TestDefault(t *testing.T) {
	p := programOf(t, samples+ranked)
	for s, want := range map[string]string{
		"bool": "false", "int": "0", "real": "0.0", "bv1": "(0 as bv1)", "bv64": "(0 as bv64)", "seq<Cell>": "[]", "set<Loop>": "{}", "multiset<int>": "multiset{}", "map<int,Loop>": "map[]",
		"Nat": "0", "Big": "12", "Row": "[12]", "Few": "if true then Number(7) else Zero", "Odd": "M::limit[0..#x]",
		"List<int>": "Nil", "List<Cell>": "Nil", "Color": "Red", "Pair<Color,bv4>": "Two(Red, (0 as bv4))", "Pair<List<Loop>,seq<Cell>>": "Two(Nil, [])",
		"Numbered": "Zero", "Flip": "B1(0)", "Turn": "A2(Red)", "Even": "A3(0)", "Tie": "B4(A6(Red, Zero))", "Late": "A5(A6(Red, Zero))",
		"Tree<int>": "Leaf(0)", "Tree<Tree<bool>>": "Leaf(Leaf(false))", "Ring": "ToLink(Pearl(false))", "Link": "Pearl(false)", "Only<Numbered>": "Just(Zero)", "Only<Nat>": "Just(0)", "Only<Few>": "Just(Zero)", "Pair<Big,Big>": "Two(0, 0)",
		"Open": "Ajar([])", "Held": "Hold([], false)", "Object": "Full(map[])", "Uses": "Use(0, if true then Number(7) else Zero, Red)", "M::D<int,real>": "M::F(false, 0)",
	} {
		d, e := Default(p, s)
		if e != api.OK {
			t.Errorf("Default(%q): %d", s, e)
			continue
		}
		if got, e := tree.Print(d); got != want || e != api.OK {
			t.Errorf("Default(%q): %q, %d, want %q", s, got, e, want)
		}
		if slices.ContainsFunc(d, func(n api.Node) bool { return n.At != 0 }) {
			t.Errorf("Default(%q) has offsets: %v", s, d)
		}
		if is, e := Inhabited(p, s, nil); !is || e != api.OK {
			t.Errorf("Inhabited(%q): %v, %d", s, is, e)
		}
	}
}

// TestEmpty is for P5.3: types without a default value.
func TestEmpty(t *testing.T) {
	p := programOf(t, samples+ranked)
	for _, s := range []string{"Cell", "array<int>", "Loop", "Pair<int,Loop>", "Pair<Cell,int>", "Endless", "Only<Cell>", "Tree<Loop>", "Lost", "Void", "Only<Void>", "Only<array<bool>>"} {
		if is, e := Inhabited(p, s, nil); is || e != api.OK {
			t.Errorf("Inhabited(%q): %v, %d", s, is, e)
		}
		if d, e := Default(p, s); len(d) > 0 || e != api.ErrEmpty {
			t.Errorf("Default(%q): %v, %d", s, d, e)
		}
	}
}

// TestInhabitedVariables is for P5.3: variables are not inhabited, unless a type has their name.
func TestInhabitedVariables(t *testing.T) {
	p := programOf(t, samples+ranked)
	for _, c := range []struct {
		s    string
		vars []string
		is   bool
		want api.Errno
	}{
		{"T", []string{"T"}, false, api.OK}, {"List<T>", []string{"T"}, true, api.OK}, {"Only<T>", []string{"S", "T"}, false, api.OK}, {"seq<T>", []string{"T"}, true, api.OK}, {"Pair<T,int>", []string{"T"}, false, api.OK},
		{"Nat", []string{"Nat"}, true, api.OK}, {"Loop", []string{"Loop"}, false, api.OK}, {"Only<Color>", []string{"Color"}, true, api.OK}, {"Cell", []string{"Cell"}, false, api.OK}, {"List", []string{"List"}, false, api.ErrArgs}, {"Only<List>", []string{"List"}, false, api.ErrArgs}, {"Round", []string{"Round"}, false, api.ErrCycle}, {"Nil", []string{"Nil"}, false, api.OK},
		{"Unknown", []string{"Unknown"}, false, api.OK}, {"Lost", []string{"Unknown"}, false, api.OK},
		{"T", nil, false, api.ErrUnknown}, {"T", []string{"t"}, false, api.ErrName}, {"T", []string{"T", "T"}, false, api.ErrTwice}, {"T<int>", []string{"T"}, false, api.ErrArgs}, {"t", []string{"t"}, false, api.ErrSyntax}, {"int", make([]string, 101), false, api.ErrMany},
	} {
		if is, e := Inhabited(p, c.s, c.vars); is != c.is || e != c.want {
			t.Errorf("Inhabited(%q, %q): %v, %d, want %v, %d", c.s, c.vars, is, e, c.is, c.want)
		}
	}
}

// chainOf returns datatypes, each with a field of the next one's type; the last one has fields of its own.
func chainOf(n int, last string) string {
	var out strings.Builder
	for i := range n - 1 {
		out.WriteString("datatype E" + strconv.Itoa(i) + " = C" + strconv.Itoa(i) + "(f: E" + strconv.Itoa(i+1) + ") ")
	}
	return out.String() + "datatype E" + strconv.Itoa(n-1) + " = C" + strconv.Itoa(n-1) + last
}

// TestReached is for P5.3: the errors of the types that the rules reach, and how many these may be, are those of Inhabited, Default and Finite alike.
func TestReached(t *testing.T) {
	long := "datatype Deep<T> = Flat(a: int) | Full(b: map<T,map<T,T>>) type Long = x: D<" + strings.Repeat("int,", 101) + "int> | true witness x "
	p := programOf(t, samples+ranked+long+chainOf(202, " ")+" datatype Six<A,B,C,D,E,F> = P1(x: Six<B,A,C,D,E,F>, y: Six<B,C,D,E,F,A>) | P0 datatype HasRound = R1(r: Round) | R0 datatype HasSeq = Q1(r: seq<Round>) | Q0 "+
		"datatype HasLong = L1(r: Long) | L0 datatype Late1 = T1(a: Six<int,bool,real,bv1,bv2,bv3>, b: Wrong)")
	for s, want := range map[string]api.Errno{
		"E2": api.OK, "E1": api.ErrLimit, "E0": api.ErrLimit, "E201": api.OK, "seq<E0>": api.OK, "Only<E3>": api.OK, "Only<E2>": api.ErrLimit,
		"Grow<int>": api.ErrLong, "Six<int,bool,real,bv1,bv2,bv3>": api.ErrLimit, "Six<int,int,int,int,int,bool>": api.OK, "Late1": api.ErrArgs,
		"Round": api.ErrCycle, "seq<Round>": api.ErrCycle, "array<Round>": api.ErrCycle, "HasRound": api.ErrCycle, "HasSeq": api.ErrCycle, "List<Round>": api.ErrCycle, "Ping": api.ErrCycle,
		"Long": api.ErrLong, "seq<Long>": api.ErrLong, "HasLong": api.ErrLong, "Deep<" + wide(200) + ">": api.ErrUnknown, "Deep<" + nested(25, "map<Nat,List<Nat>>") + ">": api.ErrLong,
		"Wrong": api.ErrArgs, "Only<Wrong>": api.ErrArgs, "seq<Wrong>": api.OK, "List": api.ErrArgs, "Tree<int,int>": api.ErrArgs, "Nowhere": api.ErrUnknown, "Nil": api.ErrUnknown,
	} {
		if is, e := Inhabited(p, s, nil); e != want || e != api.OK && is {
			t.Errorf("Inhabited(%.40q): %v, %d, want %d", s, is, e, want)
		}
		d, e := Default(p, s)
		if e != want && !(want == api.OK && e == api.ErrDeep) || e != api.OK && len(d) > 0 {
			t.Errorf("Default(%.40q): %v, %d, want %d", s, d, e, want)
		}
		if is, e := Finite(p, s); e != want || is != (s == "E201") {
			t.Errorf("Finite(%.40q): %v, %d, want %d", s, is, e, want)
		}
	}
}

// TestLargeDefaults is for P5.3: default expressions that are no trees, since they have too many nodes or are too deep.
func TestLargeDefaults(t *testing.T) {
	text := ""
	for i := range 30 {
		next := "P" + strconv.Itoa(i+1)
		text += "datatype P" + strconv.Itoa(i) + " = C" + strconv.Itoa(i) + "(f: " + next + ", g: " + next + ") "
	}
	fields := func(n int, typ string) string { return strings.TrimSuffix(strings.Repeat("f: "+typ+", ", n), ", ") }
	text += "datatype P30 = C30 datatype W = MakeW(" + fields(100, "int") + ") datatype Most = M1(" + fields(39, "W") + ", " + fields(60, "int") + ") datatype More = M2(" + fields(39, "W") + ", " + fields(61, "int") + ")"
	p := programOf(t, text)
	for s, want := range map[string]int{"P30": 1, "P29": 3, "P20": 2047, "W": 101, "Most": 4000} {
		if d, e := Default(p, s); e != api.OK || len(d) != want {
			t.Errorf("Default(%q): %d nodes, %d, want %d", s, len(d), e, want)
		}
	}
	for _, s := range []string{"P19", "P0", "More"} {
		if d, e := Default(p, s); len(d) > 0 || e != api.ErrMany {
			t.Errorf("Default(%q): %d nodes, %d", s, len(d), e)
		}
	}
	q := programOf(t, chainOf(61, " datatype Q = A(a: E0)"))
	for s, want := range map[string]api.Errno{"E1": api.OK, "E0": api.ErrDeep, "Q": api.ErrDeep} {
		if d, e := Default(q, s); e != want || e == api.OK && len(d) != 60 {
			t.Errorf("Default(%q): %d nodes, %d, want %d", s, len(d), e, want)
		}
	}
}

// TestFinite is for P5.3: the types whose values can be listed.
func TestFinite(t *testing.T) {
	p := programOf(t, samples+ranked+"type Small = b: bv4 | true witness b type Tint = c: Color | true witness Red type Poor = l: List | true witness l datatype Deep<T> = Full(b: map<T,map<T,T>>) datatype Unit<T> = One datatype Hue = Tone(c: Color) | Bare | Odd1(c: Color<int>) type Hues = h: Hue | true witness Bare datatype Far = Near | Next(f: Further) datatype Further = Last(s: seq<Round>)")
	for s, want := range map[string]bool{
		"bool": true, "bv1": true, "bv2": true, "bv3": true, "bv4": true, "Color": true, "Small": true, "Tint": true, "Unit<int>": true, "Unit<Loop>": true,
		"bv5": false, "bv14": false, "bv64": false, "int": false, "real": false, "seq<bool>": false, "set<Color>": false, "map<bool,bool>": false, "multiset<bool>": false, "array<bool>": false, "List<bool>": false, "Cell": false, "Nat": false, "Numbered": false, "Loop": false, "Lost": false, "Ring": false, "Endless": false, "Open": false, "Held": false, "Only<Cell>": false, "Object": false, "Few": false, "Void": false, "Odd": false, "seq<Wrong>": false, "array<Grow<int>>": false, "Only<bool>": false,
	} {
		if is, e := Finite(p, s); is != want || e != api.OK {
			t.Errorf("Finite(%q): %v, %d", s, is, e)
		}
	}
	for s, want := range map[string]api.Errno{"Round": api.ErrCycle, "seq<Round>": api.ErrCycle, "List<Round>": api.ErrCycle, "Tree2": api.ErrUnknown, "List": api.ErrArgs, "T": api.ErrUnknown, "Poor": api.ErrArgs, "Deep<" + nested(25, "map<Nat,List<Nat>>") + ">": api.ErrLong, "Wrong": api.ErrArgs, "Only<Wrong>": api.ErrArgs, "Hues": api.ErrArgs, "Grow<int>": api.ErrLong, "Grow<Cell>": api.ErrLong, "Far": api.ErrCycle} {
		if is, e := Finite(p, s); is || e != want {
			t.Errorf("Finite(%.40q): %v, %d, want %d", s, is, e, want)
		}
	}
}

// maze returns random datatypes and subset types without parameters.
func maze(r *rand.Rand) (string, []string) {
	names := []string{"D0", "D1", "D2", "D3", "D4", "S0", "S1"}
	pick := func() string {
		all := append([]string{"int", "Cell", "seq<D0>", "array<D1>", "Unknown"}, names...)
		return all[r.Intn(len(all))]
	}
	out := "class Cell { } "
	for i := range 5 {
		out += "datatype D" + strconv.Itoa(i) + " ="
		for j := range 1 + r.Intn(3) {
			if j > 0 {
				out += " |"
			}
			var fields []string
			for k := range r.Intn(3) + min(j, 1) + 1 {
				fields = append(fields, "f"+strconv.Itoa(k)+": "+pick())
			}
			if r.Intn(4) == 0 {
				fields = nil
			}
			out += " C" + strconv.Itoa(i) + "x" + strconv.Itoa(j) + "(" + strings.Join(fields, ", ") + ")"
		}
		out += " "
	}
	return out + "type S0 = x: D0 | true witness x type S1 = x: S0 | true witness x", append(names, "int", "Cell", "seq<Cell>")
}

// readings asks the rules as they stand about the types of a program, and keeps bases and constructors.
type readings struct {
	p     api.Tree
	bases map[string]string
	cons  map[string][]api.Cons
}

func newReadings(p api.Tree) readings {
	return readings{p, map[string]string{}, map[string][]api.Cons{}}
}

func (r readings) base(s string) string {
	if _, found := r.bases[s]; !found {
		r.bases[s], _ = Base(r.p, s)
	}
	return r.bases[s]
}

func (r readings) constructors(s string) []api.Cons {
	if _, found := r.cons[s]; !found {
		r.cons[s], _ = Constructors(r.p, s)
	}
	return r.cons[s]
}

// hasValue says whether a type has a value of a limited height.
func (r readings) hasValue(s string, height int) bool {
	base := r.base(s)
	switch {
	case base == "int" || strings.HasPrefix(base, "seq<"):
		return true
	case height == 0:
		return false
	}
	return slices.ContainsFunc(r.constructors(base), func(c api.Cons) bool {
		return !slices.ContainsFunc(c.Fields, func(f api.Bound) bool { return !r.hasValue(f.Sort, height-1) })
	})
}

// isAfter says whether a type is inhabited after some rounds.
func (r readings) isAfter(s string, rounds int) bool {
	switch {
	case rounds == 0:
		return false
	case s == "int" || strings.HasPrefix(s, "seq<"):
		return true
	case strings.HasPrefix(s, "S"):
		return r.isAfter(r.base(s), rounds-1)
	}
	return slices.ContainsFunc(r.constructors(s), func(c api.Cons) bool { return r.rank(c, rounds-1) < rounds })
}

// rank returns the rank of a constructor, or more than a limit.
func (r readings) rank(c api.Cons, limit int) int {
	for rank := range limit + 1 {
		if !slices.ContainsFunc(c.Fields, func(f api.Bound) bool { return !r.isAfter(f.Sort, rank) }) {
			return rank
		}
	}
	return limit + 1
}

// text returns the text of the default expression of a type that is inhabited.
func (r readings) text(s string) string {
	switch {
	case s == "int":
		return "0"
	case strings.HasPrefix(s, "seq<"):
		return "[]"
	case strings.HasPrefix(s, "S"):
		return "x"
	}
	best := slices.MinFunc(r.constructors(s), func(a, b api.Cons) int { return r.rank(a, 6) - r.rank(b, 6) })
	var fields []string
	for _, f := range best.Fields {
		fields = append(fields, r.text(f.Sort))
	}
	if len(fields) == 0 {
		return best.Name
	}
	return best.Name + "(" + strings.Join(fields, ", ") + ")"
}

// TestMazes is for P5.4: the default expression exists just for inhabited types, and these are the ones that have a value.
func TestMazes(t *testing.T) {
	r := rand.New(rand.NewSource(8))
	inhabited, empty := 0, 0
	for range 300 {
		text, names := maze(r)
		p := programOf(t, text)
		rules := newReadings(p)
		for _, s := range names {
			is, e := Inhabited(p, s, nil)
			d, f := Default(p, s)
			if e != api.OK || is != rules.hasValue(s, 5) || is != (f == api.OK) || !is && f != api.ErrEmpty || is != (len(d) > 0) {
				t.Fatalf("%q in %s: %v, %d; %v, %d", s, text, is, e, d, f)
			}
			if is {
				inhabited++
			} else {
				empty++
			}
		}
	}
	if inhabited < 200 || empty < 200 {
		t.Errorf("%d inhabited, %d empty", inhabited, empty)
	}
}

// isListed says whether the values of a type can be listed, by the definition as it stands.
func (r readings) isListed(s string) bool {
	constructors := r.constructors(r.base(s))
	return len(constructors) > 0 && !slices.ContainsFunc(constructors, func(c api.Cons) bool { return len(c.Fields) > 0 })
}

// TestFiniteMazes is for P5.3: Finite has the errors of Inhabited, for types that the rules reach in any way, and otherwise the answer of the definition.
func TestFiniteMazes(t *testing.T) {
	r := rand.New(rand.NewSource(13))
	faults := []string{"datatype Unknown = U(d: D0<int>)", "datatype Unknown = U(f: Cell, g: V) type V = v: set<V> | true witness v", "datatype Unknown = U(g: Grow<int>) datatype Grow<T> = Stop | More(g: Grow<seq<T>>)", "datatype Unknown = U | W", "datatype Unknown = U(s: seq<D0<int>>, c: Cell<int>)"}
	count := map[api.Errno]int{}
	for range 300 {
		text, names := maze(r)
		text += " " + faults[r.Intn(len(faults))]
		p := programOf(t, text)
		rules := newReadings(p)
		for _, s := range append(names, "Unknown", "set<D1>") {
			is, e := Finite(p, s)
			_, want := Inhabited(p, s, nil)
			if e != want || is != (e == api.OK && rules.isListed(s)) {
				t.Fatalf("Finite(%q) in %s: %v, %d, want %d", s, text, is, e, want)
			}
			count[e]++
			if is {
				count[-1]++
			}
		}
	}
	for _, e := range []api.Errno{-1, api.OK, api.ErrArgs, api.ErrCycle, api.ErrLong} {
		if count[e] < 100 {
			t.Errorf("only %d with the error %d", count[e], e)
		}
	}
}

// TestRanks is for P5.3: the constructor of a default expression is the first one of the least rank.
func TestRanks(t *testing.T) {
	r := rand.New(rand.NewSource(12))
	for range 200 {
		text, names := maze(r)
		p := programOf(t, text)
		rules := newReadings(p)
		for _, s := range names {
			d, e := Default(p, s)
			if e != api.OK {
				continue
			}
			if got, _ := tree.Print(d); got != rules.text(s) {
				t.Fatalf("Default(%q) in %s: %s, want %s", s, text, got, rules.text(s))
			}
		}
	}
}

// TestBases is for P5.4: a base contains no subset type, and is its own base.
func TestBases(t *testing.T) {
	p := programOf(t, samples)
	r := rand.New(rand.NewSource(9))
	for range 500 {
		s := typeOf(r, 4, "Nat", "Big", "Row", "Color", "Cell")
		base, e := Base(p, s)
		if e == api.ErrSyntax || e == api.ErrLong {
			continue
		}
		again, f := Base(p, base)
		if e != api.OK || f != api.OK || again != base || strings.Contains(base, "Nat") || strings.Contains(base, "Big") || strings.Contains(base, "Row") {
			t.Fatalf("Base(%q): %q, %d, then %q, %d", s, base, e, again, f)
		}
	}
}
