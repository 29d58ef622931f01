package instance

import (
	"slices"
	"strconv"
	"strings"
	"testing"

	"entail/api"
	"entail/parse"
)

// show returns the text of constructors.
func show(list []Constructor) string {
	var out []string
	for _, c := range list {
		out = append(out, c.Name+"("+strings.Join(c.Fields, " ")+")")
	}
	return strings.Join(out, " ")
}

// TestConstructors is for P6.4 and P10.1: the constructors of instances, with base types; a type that is too long or has no base is empty.
func TestConstructors(t *testing.T) {
	params := make([]string, 120)
	for i := range params {
		params[i] = "T" + strconv.Itoa(i)
	}
	many := strings.Join(params, ", ")
	p, at, e := parse.Program(`
datatype List<T> = Nil | Cons(head: T, tail: List<T>)
datatype Pair<A, B> = Two(fst: map<A, seq<B>>, snd: Pair<B, A>)
datatype Grow<T> = Leaf(a: T, b: Nat) | Node(c: Grow<map<T, T>>, d: Row)
datatype Plain = Of(n: Nat, r: Row, c: Cell) | Same
datatype Odd = Bad(x: Round) | Good(x: List)
datatype Many<` + many + `> = Some(a: T3, b: map<T119, seq<T119>>, c: map<Many<` + many + `>, Many<` + many + `>>)
type Nat = x: int | 0 <= x witness 0
type Row = s: seq<Nat> | true witness []
type Round = s: seq<Round> | true witness []
class Cell { var v: int; }
`)
	if e != api.OK {
		t.Fatalf("the program: %d at %d", e, at)
	}
	long := strings.Repeat("seq<", 59) + "int" + strings.Repeat(">", 59)
	args := slices.Repeat([]string{"C"}, 120)
	args[3], args[119] = "B", "Q"
	for typ, want := range map[string]string{
		"List<int>":                         "Nil() Cons(int List<int>)",
		"List<seq<bool>>":                   "Nil() Cons(seq<bool> List<seq<bool>>)",
		"Pair<int,bool>":                    "Two(map<int,seq<bool>> Pair<bool,int>)",
		"Plain":                             "Of(int seq<int> Cell) Same()",
		"Grow<int>":                         "Leaf(int int) Node(Grow<map<int,int>> seq<int>)",
		"Grow<" + long[4:len(long)-1] + ">": "Leaf(" + long[4:len(long)-1] + " int) Node( seq<int>)",
		"Odd":                               "Bad() Good(List)",
		"int":                               "", "seq<int>": "", "Cell": "", "Nat": "", "T": "", "List": "", "Plain<int>": "", "": "", "List<int": "",
	} {
		if got := show(Constructors(p, typ)); got != want {
			t.Errorf("Constructors of %.40s: %s, want %s", typ, got, want)
		}
	}
	if got := show(Constructors(p, "Many<"+strings.Join(args, ",")+">")); got != "Some(B map<Q,seq<Q>> )" {
		t.Errorf("Constructors of a type with 120 arguments: %s", got)
	}
}
