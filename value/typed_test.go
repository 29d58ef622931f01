package value

import (
	"math/rand"
	"slices"
	"strconv"
	"strings"
	"testing"

	"entail/api"
	"entail/types"
)

// samples are the declarations of these tests.
const samples = `
datatype M::List = M::Nil | M::Cons(head: bool, tail: M::List)
datatype Color = Red | Green
datatype Pair<A, B> = Two(fst: A, snd: B)
datatype Tree<T> = Leaf | Node(left: Tree<T>, value: T, right: Tree<T>)
datatype Loop = More(rest: Loop)
datatype Mixed = Ints(i: int, n: Nat) | Objects(c: Cell, a: array<int>) | Others(s: seq<Nat>, m: map<Color,bool>)
datatype Poor = Bad(l: Tree) | Worse(r: Round) | Some(u: Unknown) | None1(v: M::Unknown) | Good(b: bool)
datatype Deep<T> = Flat(a: bool) | Full(b: map<T,map<T,T>>)
datatype Double = Same(b: bool) | Same(i: int) | Same(b: bool)
type Nat = x: int | 0 <= x witness 0
type Nats = s: seq<Nat> | true witness []
type Round = s: seq<Round> | true witness []
type Small = b: bv4 | true witness b
class Cell { var v: int; }
const limit: int := 3;
`

// TestHasType is for P6.4: which values have which types.
func TestHasType(t *testing.T) {
	p := programOf(t, samples)
	for typ, lists := range map[string][2][]string{
		"bool":                   {{"true", "false"}, {"1", "0bv1", "[true]", "A()", "#0"}},
		"int":                    {{"0", "-5"}, {"0/1", "true", "5bv8", "#5", "[5]"}},
		"real":                   {{"1/2", "0/1"}, {"0", "true"}},
		"bv8":                    {{"5bv8"}, {"5bv9", "5bv18", "5"}},
		"Nat":                    {{"0", "-1"}, {"1/1"}},
		"Nats":                   {{"[]", "[-1]"}, {"[true]", "{}", "1"}},
		"seq<int>":               {{"[]", "[1, 2]"}, {"[true]", "[1, true]", "{1}", "multiset{1}", "map[1 := 1]", "1", "A(1)"}},
		"seq<seq<bool>>":         {{"[[]]", "[[true], [], [false, true]]"}, {"[true]", "[[1]]"}},
		"set<int>":               {{"{}", "{1, 2}"}, {"{true}", "[1]", "multiset{}", "{1, 1/2}"}},
		"multiset<Nat>":          {{"multiset{}", "multiset{1, 1}"}, {"multiset{true}", "{1}"}},
		"map<int,bool>":          {{"map[]", "map[1 := true, 2 := false]"}, {"map[1 := 1]", "map[true := true]", "map[1 := true, 2 := 1]", "{1}", "[1, true]"}},
		"map<int,map<int,bool>>": {{"map[1 := map[2 := true]]"}, {"map[1 := map[true := true]]", "map[map[] := 1]"}},
		"M::List":                {{"M::Nil()", "M::Cons(true, M::Nil())", "M::Cons(true, M::Cons(false, M::Nil()))"}, {"Nil()", "M::Nil(1)", "M::Cons(1, M::Nil())", "M::Cons(true)", "M::Cons(true, M::Nil(), 1)", "M::Cons(true, Red())", "M::Cons()", "M::List()", "1"}},
		"Color":                  {{"Red()", "Green()"}, {"Blue()", "Color()", "Red(1)", "M::Red()"}},
		"Pair<int,Color>":        {{"Two(1, Red())"}, {"Two(Red(), 1)", "Two(1)", "Pair(1, Red())"}},
		"Pair<T,seq<T>>":         {{"Two(1, [])", "Two(true, [1, #1])", "Two(Two(), [Blue()])"}, {"Two(1, 1)"}},
		"Pair<Nat,Tree<Nat>>":    {{"Two(-1, Node(Leaf(), -2, Leaf()))"}, {"Two(1, Node(Leaf(), true, Leaf()))"}},
		"Tree<M::List>":          {{"Node(Node(Leaf(), M::Nil(), Leaf()), M::Cons(true, M::Nil()), Leaf())"}, {"Node(Node(Leaf(), Leaf(), Leaf()), M::Nil(), Leaf())"}},
		"Loop":                   {nil, {"More()", "More(More())", "Red()", "1"}},
		"Mixed":                  {{"Ints(1, -1)", "Objects(#0, #1)", "Others([-1], map[Red() := true])"}, {"Ints(1, true)", "Objects(1, #1)", "Others([], map[true := true])", "Objects(#0, [1])"}},
		"Poor":                   {{"Good(true)", "Some(1)", "Some(M::Any([#1]))"}, {"Bad(Leaf())", "Worse([])", "Worse(1)", "None1(1)", "Good(1)"}},
		"Double":                 {{"Same(true)", "Same(1)"}, {"Same(1/1)", "Same()"}},
		"Cell":                   {{"#0", "#99999"}, {"0", "Cell()"}},
		"array<bool>":            {{"#0"}, {"[true]", "[]"}},
		"T":                      {{"1", "true", "[#1]", "M::Any(1)", "map[1 := {}]"}, nil},
		"seq<T>":                 {{"[]", "[1, true]"}, {"{}", "1"}},
		"map<A,Z>":               {{"map[1 := true]", "map[A() := {}]"}, {"{}"}},
		"Deep<int>":              {{"Flat(true)", "Full(map[1 := map[2 := 3]])"}, {"Full(1)", "Full(map[1 := 2])"}},
		"Deep<" + long() + ">":   {{"Flat(true)", "Flat(false)"}, {"Full(map[])", "Flat(1)"}}, // the type of b is too long
	} {
		for i, list := range lists {
			for _, s := range list {
				if is, e := HasType(p, of(s), typ); is != (i == 0) || e != api.OK {
					t.Errorf("HasType(%s, %.40s): %v, %d", s, typ, is, e)
				}
			}
		}
	}
}

// long returns a type that is well-formed, three of which have more than 400 bytes.
func long() string {
	return strings.Repeat("Pair<int,", 14) + "int" + strings.Repeat(">", 14)
}

// TestTypeErrors is for P6.4: the errors of HasType and Domain.
func TestTypeErrors(t *testing.T) {
	p := programOf(t, samples)
	var vars []string
	for i := range 101 {
		vars = append(vars, "V"+strconv.Itoa(i))
	}
	hundred, more := "D<"+strings.Join(vars[:98], ",")+">", "D<"+strings.Join(vars[:98], ",")+",A,B,C>"
	for i, c := range []struct {
		p    api.Tree
		typ  string
		want api.Errno
	}{
		{nil, "int", api.ErrEmpty}, {programOf(t, "module A { }"), "x", api.ErrKind}, {nil, "x", api.ErrEmpty}, {p, "x", api.ErrSyntax}, {p, "seq<int", api.ErrSyntax}, {p, "", api.ErrSyntax}, {p, strings.Repeat("x", 401), api.ErrLong},
		{p, "Tree", api.ErrArgs}, {p, "Color<int>", api.ErrArgs}, {p, "Nat<T>", api.ErrArgs}, {p, "T<int>", api.ErrUnknown}, {p, "M::T", api.ErrUnknown}, {p, "Red", api.ErrUnknown}, {p, "seq<Leaf>", api.ErrUnknown}, {p, "Round", api.ErrCycle}, {p, "set<Round>", api.ErrCycle}, {p, "Pair<Tree,Round>", api.ErrArgs}, {p, "Pair<T,T>", api.OK},
		{p, hundred, api.ErrUnknown}, {p, more, api.ErrMany},
	} {
		if is, e := HasType(c.p, of("1"), c.typ); e != c.want || is {
			t.Errorf("%d: HasType(%.40q): %v, %d, want %d", i, c.typ, is, e, c.want)
		}
		if is, e := HasType(c.p, of("01"), c.typ); e != api.ErrForm || is {
			t.Errorf("%d: HasType of no value: %v, %d", i, is, e)
		}
		if l, complete, e := Domain(c.p, c.typ, 1); e != c.want || complete || len(l) > 0 && e != api.OK {
			t.Errorf("%d: Domain(%.40q): %s, %v, %d, want %d", i, c.typ, show(l), complete, e, c.want)
		}
		want := c.want
		if want == api.OK {
			want = api.ErrRange
		}
		for _, size := range []int{-1, 5, 1 << 40} {
			if l, complete, e := Domain(c.p, c.typ, size); e != want || complete || len(l) > 0 {
				t.Errorf("%d: Domain(%.40q, %d): %s, %v, %d, want %d", i, c.typ, size, show(l), complete, e, want)
			}
		}
	}
}

// TestDomains is for P6.4: the values of domains in their order.
func TestDomains(t *testing.T) {
	p := programOf(t, samples)
	for _, c := range []struct {
		typ      string
		size     int
		complete bool
		want     string
	}{
		{"bool", 0, true, "false true"}, {"bool", 4, true, "false true"},
		{"bv1", 0, true, "0bv1 1bv1"}, {"bv2", 0, true, "0bv2 1bv2 2bv2 3bv2"}, {"bv2", 4, true, "0bv2 1bv2 2bv2 3bv2"}, {"bv4", 1, true, "0bv4 1bv4 2bv4 3bv4 4bv4 5bv4 6bv4 7bv4 8bv4 9bv4 10bv4 11bv4 12bv4 13bv4 14bv4 15bv4"}, {"Small", 0, true, "0bv4 1bv4 2bv4 3bv4 4bv4 5bv4 6bv4 7bv4 8bv4 9bv4 10bv4 11bv4 12bv4 13bv4 14bv4 15bv4"},
		{"bv5", 0, false, "0bv5"}, {"bv5", 1, false, "0bv5 1bv5 31bv5"}, {"bv5", 4, false, "0bv5 1bv5 2bv5 3bv5 4bv5 31bv5"}, {"bv64", 2, false, "0bv64 1bv64 2bv64 18446744073709551615bv64"},
		{"int", 0, false, "0"}, {"int", 2, false, "0 1 -1 2 -2"}, {"Nat", 1, false, "0 1 -1"}, {"int", 4, false, "0 1 -1 2 -2 3 -3 4 -4"},
		{"real", 0, false, "0/1"}, {"real", 1, false, "0/1 1/1 -1/1 1/2 -1/2"}, {"real", 2, false, "0/1 1/1 -1/1 2/1 -2/1 1/2 -1/2"},
		{"seq<bool>", 0, false, "[]"}, {"seq<bool>", 1, false, "[] [false] [true]"}, {"seq<bool>", 2, false, "[] [false] [true] [false, false] [false, true] [true, false] [true, true]"}, {"seq<int>", 1, false, "[] [0]"}, {"Nats", 2, false, "[] [0] [1] [-1] [0, 0] [0, 1] [0, -1] [1, 0] [1, 1] [1, -1] [-1, 0] [-1, 1] [-1, -1]"},
		{"set<int>", 0, false, "{}"}, {"set<int>", 1, false, "{} {0}"}, {"set<int>", 2, false, "{} {0} {1} {-1} {0, 1} {-1, 0} {-1, 1}"}, {"set<bool>", 4, false, "{} {false} {true} {false, true}"},
		{"multiset<bool>", 2, false, "multiset{} multiset{false} multiset{true} multiset{false, false} multiset{false, true} multiset{true, true}"}, {"multiset<int>", 2, false, "multiset{} multiset{0} multiset{1} multiset{-1} multiset{0, 0} multiset{0, 1} multiset{-1, 0} multiset{1, 1} multiset{-1, 1} multiset{-1, -1}"},
		{"map<bool,bool>", 0, false, "map[]"}, {"map<bool,bool>", 1, false, "map[] map[false := false] map[false := true] map[true := false] map[true := true]"},
		{"map<int,bool>", 2, false, "map[] map[0 := false] map[0 := true] map[1 := false] map[1 := true] map[-1 := false] map[-1 := true] map[0 := false, 1 := false] map[0 := false, 1 := true] map[0 := true, 1 := false] map[0 := true, 1 := true] map[-1 := false, 0 := false] map[-1 := true, 0 := false] map[-1 := false, 0 := true] map[-1 := true, 0 := true] map[-1 := false, 1 := false] map[-1 := true, 1 := false] map[-1 := false, 1 := true] map[-1 := true, 1 := true]"},
		{"map<bool,Cell>", 2, false, "map[]"}, {"map<Cell,bool>", 2, false, "map[]"}, {"map<bool,Loop>", 4, false, "map[]"},
		{"M::List", 0, false, "M::Nil()"}, {"M::List", 1, false, "M::Nil() M::Cons(false, M::Nil()) M::Cons(true, M::Nil())"},
		{"M::List", 2, false, "M::Nil() M::Cons(false, M::Nil()) M::Cons(false, M::Cons(false, M::Nil())) M::Cons(false, M::Cons(true, M::Nil())) M::Cons(true, M::Nil()) M::Cons(true, M::Cons(false, M::Nil())) M::Cons(true, M::Cons(true, M::Nil()))"},
		{"Color", 0, true, "Red() Green()"}, {"Color", 3, true, "Red() Green()"}, {"Pair<bool,Color>", 0, false, ""}, {"Pair<bool,Color>", 1, false, "Two(false, Red()) Two(false, Green()) Two(true, Red()) Two(true, Green())"}, {"Pair<Nat,T>", 2, false, ""}, {"Pair<Nat,bool>", 2, false, "Two(0, false) Two(0, true) Two(1, false) Two(1, true) Two(-1, false) Two(-1, true)"},
		{"Loop", 4, false, ""}, {"Cell", 4, false, ""}, {"array<int>", 4, false, ""}, {"T", 4, false, ""}, {"seq<T>", 3, false, "[]"}, {"seq<Cell>", 0, false, "[]"}, {"set<Loop>", 2, false, "{}"},
		{"Poor", 2, false, "Good(false) Good(true)"}, {"Mixed", 1, false, "Ints(0, 0) Others([], map[])"}, {"Double", 2, false, "Same(false) Same(true) Same(0) Same(1) Same(-1)"}, {"Deep<" + long() + ">", 2, false, "Flat(false) Flat(true)"}, {"Deep<bool>", 1, false, "Flat(false) Flat(true) Full(map[])"},
	} {
		l, complete, e := Domain(p, c.typ, c.size)
		if got := show(l); got != c.want || complete != c.complete || e != api.OK {
			t.Errorf("Domain(%.40s, %d): %s, %v, %d, want %s", c.typ, c.size, got, complete, e, c.want)
		}
	}
}

// full returns all values of a type for a size, by the definition as it stands, where a domain has the first 64 of them.
func full(p api.Tree, typ string, size int) []api.Value {
	head, args, _ := types.Parts(typ)
	part := func(s string) []api.Value {
		if size == 0 {
			return nil
		}
		base, e := types.Base(p, s)
		if e != api.OK {
			return nil
		}
		l := full(p, base, size-1)
		return l[:min(len(l), MaxDomain)]
	}
	var lists func(l []api.Value, n int) [][]int
	lists = func(l []api.Value, n int) [][]int {
		if n == 0 {
			return [][]int{nil}
		}
		var out [][]int
		for _, before := range lists(l, n-1) {
			for i := range l {
				out = append(out, append(slices.Clone(before), i))
			}
		}
		return out
	}
	taken := func(l []api.Value, at []int) []api.Value {
		var out []api.Value
		for _, i := range at {
			out = append(out, l[i])
		}
		return out
	}
	var out []api.Value
	switch head {
	case "bool":
		return all("false", "true")
	case "int":
		out = append(out, ofInt(0))
		for n := 1; n <= size; n++ {
			out = append(out, ofInt(n), ofInt(-n))
		}
		return out
	case "bv3":
		return all("0bv3", "1bv3", "2bv3", "3bv3", "4bv3", "5bv3", "6bv3", "7bv3")
	case "seq", "set", "multiset":
		l := part(args[0])
		for n := range size + 1 {
			for _, at := range lists(l, n) {
				distinct := slices.Compact(slices.Clone(at))
				switch {
				case head == "seq":
					out = append(out, api.Value{Kind: api.VSeq, Items: taken(l, at)})
				case head == "set" && slices.IsSorted(at) && len(distinct) == n:
					v, _ := Apply(api.ESet, taken(l, at))
					out = append(out, v)
				case head == "multiset" && slices.IsSorted(at):
					v, _ := Apply(api.EMulti, taken(l, at))
					out = append(out, v)
				}
			}
		}
		return out
	case "map":
		keys, values := part(args[0]), part(args[1])
		for n := range size + 1 {
			for _, at := range lists(keys, n) {
				if !slices.IsSorted(at) || len(slices.Compact(slices.Clone(at))) != n {
					continue
				}
				for _, to := range lists(values, n) {
					var l []api.Value
					for i := range n {
						l = append(l, keys[at[i]], values[to[i]])
					}
					v, _ := Apply(api.EMap, l)
					out = append(out, v)
				}
			}
		}
		return out
	}
	constructors, _ := types.Constructors(p, typ)
	for _, c := range constructors {
		tuples := [][]api.Value{nil}
		for _, f := range c.Fields {
			var longer [][]api.Value
			for _, before := range tuples {
				for _, v := range part(f.Sort) {
					longer = append(longer, append(slices.Clone(before), v))
				}
			}
			tuples = longer
		}
		for _, items := range tuples {
			out = append(out, api.Value{Kind: api.VCons, Text: c.Name, Items: items})
		}
	}
	return out
}

// TestFirstValues is for P6.4: domains are the first 64 values of the definition.
func TestFirstValues(t *testing.T) {
	p := programOf(t, samples)
	for _, typ := range []string{"bool", "int", "bv3", "seq<bool>", "seq<int>", "set<bv3>", "set<int>", "multiset<bool>", "multiset<int>", "map<bool,int>", "map<int,bool>", "M::List", "Color", "Pair<int,Color>", "Pair<bool,Pair<bool,bool>>", "Tree<bool>", "Tree<Color>", "Loop", "seq<Pair<bool,bool>>", "set<seq<bool>>", "map<Color,Color>"} {
		for size := range 4 {
			want := full(p, typ, size)
			got, _, e := Domain(p, typ, size)
			if e != api.OK || show(got) != show(want[:min(len(want), 64)]) {
				t.Errorf("Domain(%s, %d): %s, %d, want %s", typ, size, show(got), e, show(want[:min(len(want), 64)]))
			}
		}
	}
}

// TestDomainLaws is for P6.5: all values of a domain are different and have the type, and a domain of a greater size has those that are among its first 64.
func TestDomainLaws(t *testing.T) {
	p := programOf(t, samples)
	for _, typ := range []string{"bool", "bv3", "bv9", "int", "real", "Nat", "seq<Nat>", "set<real>", "multiset<bv9>", "map<int,seq<bool>>", "M::List", "Color", "Pair<Nat,Tree<bool>>", "Tree<int>", "Mixed", "Poor", "Double", "seq<Mixed>", "Deep<bool>", "Pair<seq<int>,set<int>>"} {
		var before []api.Value
		for size := range MaxSize + 1 {
			l, complete, e := Domain(p, typ, size)
			finite, _ := types.Finite(p, typ)
			if e != api.OK || complete != finite || len(l) > MaxDomain {
				t.Fatalf("Domain(%s, %d): %d values, %v, %d", typ, size, len(l), complete, e)
			}
			texts := map[string]bool{}
			for _, v := range l {
				if is, e := HasType(p, v, typ); !is || e != api.OK || texts[text(v)] {
					t.Fatalf("Domain(%s, %d) has %s: %v, %d", typ, size, text(v), is, e)
				}
				texts[text(v)] = true
			}
			if len(l) < MaxDomain {
				for _, v := range before {
					if !texts[text(v)] {
						t.Fatalf("Domain(%s, %d) does not have %s", typ, size, text(v))
					}
				}
			}
			before = l
		}
	}
}

// TestLargeDomains is for P6.4: domains of types with many constructors and fields, also where a product would be far too large.
func TestLargeDomains(t *testing.T) {
	var wide, many []string
	for i := range 100 {
		wide = append(wide, "f"+strconv.Itoa(i)+": seq<int>")
		many = append(many, "K"+strconv.Itoa(i))
	}
	p := programOf(t, "datatype Wide = W("+strings.Join(wide, ", ")+") datatype None = N("+strings.Join(wide, ", ")+", last: None) datatype Many = "+strings.Join(many, " | ")+" datatype Huge = H("+strings.Repeat("f: int, ", 250)+"g: int)")
	if l, _, e := Domain(p, "Wide", 3); len(l) != 64 || e != api.OK || len(l[63].Items) != 100 || text(l[1].Items[99]) != "[0]" {
		t.Errorf("Domain(Wide): %d values, %d", len(l), e)
	}
	if l, _, e := Domain(p, "None", 4); len(l) != 0 || e != api.OK {
		t.Errorf("Domain(None): %d values, %d", len(l), e)
	}
	if l, complete, e := Domain(p, "Many", 0); len(l) != 64 || !complete || e != api.OK || text(l[63]) != "K63()" {
		t.Errorf("Domain(Many): %d values, %v, %d", len(l), complete, e)
	}
	if l, _, e := Domain(p, "Huge", 1); len(l) != 1 || e != api.OK || len(l[0].Items) != 251 || Check(l[0]) != api.ErrMany {
		t.Errorf("Domain(Huge): %d values, %d", len(l), e)
	}
}

// TestManyQuestions is for P6.4: constructors with one name do not make the answer take longer and longer.
func TestManyQuestions(t *testing.T) {
	p := programOf(t, "datatype A = X(a: A) | X(b: B) | Z datatype B = X(a: A) | X(b: B) | Z")
	v := of("Y()")
	for range 59 {
		v = api.Value{Kind: api.VCons, Text: "X", Items: []api.Value{v}}
	}
	if is, e := HasType(p, v, "A"); is || e != api.OK {
		t.Errorf("HasType: %v, %d", is, e)
	}
}

// TestRandomTypes is for P6.4: a value of random form has a type exactly if it is built as its type says.
func TestRandomTypes(t *testing.T) {
	p := programOf(t, samples)
	r := rand.New(rand.NewSource(68))
	domains := map[string][]api.Value{}
	list := []string{"bool", "int", "seq<bool>", "set<int>", "M::List", "Color", "Pair<bool,int>", "Pair<int,bool>", "map<bool,int>", "multiset<int>"}
	for _, typ := range list {
		domains[typ], _, _ = Domain(p, typ, 2)
	}
	for range 2000 {
		a, b := list[r.Intn(len(list))], list[r.Intn(len(list))]
		v := domains[a][r.Intn(len(domains[a]))]
		in := slices.ContainsFunc(domains[b], func(w api.Value) bool { return same(v, w) })
		is, e := HasType(p, v, b)
		if e != api.OK || in && !is || a == b && !is || is && !in {
			t.Fatalf("HasType(%s of %s, %s): %v, %d", text(v), a, b, is, e)
		}
		both := api.Value{Kind: api.VCons, Text: "Two", Items: []api.Value{v, v}}
		if pair, e := HasType(p, both, "Pair<"+a+","+b+">"); pair != is || e != api.OK {
			t.Fatalf("HasType(%s, Pair<%s,%s>): %v, %d", text(both), a, b, pair, e)
		}
	}
}
