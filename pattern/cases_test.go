package pattern

import (
	"slices"
	"strconv"
	"strings"
	"testing"

	"entail/api"
	"entail/types"
	"entail/walk"
)

// TestMissing is for P10.2: the missing pattern of a list, or none.
func TestMissing(t *testing.T) {
	p := programOf(t, samples)
	for _, c := range []struct {
		typ, patterns, want string
	}{
		{"D", "", "_"},
		{"int", "", "_"},
		{"D", "Nil | Cons(0, _)", "Cons(1, _)"},
		{"D", "Nil | Cons(_, _)", ""},
		{"D", "Cons(x, Nil)", "Nil"},
		{"D", "Nil | Cons(x, Nil)", "Cons(_, Cons(_, _))"},
		{"D", "x", ""},
		{"D", "Nil", "Cons(_, _)"},
		{"D", "Nil | Cons(1, _)", "Cons(0, _)"},
		{"D", "Nil | Cons(0, _) | Cons(1, Nil)", "Cons(2, _)"},
		{"D", "Nil | Cons(0, _) | Cons(_, Nil)", "Cons(1, Cons(_, _))"},
		{"D", "Nil | Cons(_, Nil) | Cons(_, Cons(_, Nil))", "Cons(_, Cons(_, Cons(_, _)))"},
		{"bool", "true", "false"},
		{"bool", "false", "true"},
		{"bool", "true | false", ""},
		{"bool", "true | _", ""},
		{"int", "0 | 1", "2"},
		{"int", "1 | 2", "0"},
		{"int", "0 | 2", "1"},
		{"int", "-1 | 0 | -2", "1"},
		{"int", "-0", "1"},
		{"int", "0 | 1 | x", ""},
		{"bv2", "0 | 1 | 2", "3"},
		{"bv2", "0 | 2 | 3 | 1", ""},
		{"bv2", "3", "0"},
		{"bv1", "1", "0"},
		{"bv4", "1", "0"},
		{"bv4", "0 | 1 | 3", "2"},
		{"bv5", "0 | 1 | 3", "2"},
		{"bv64", "0", "1"},
		{"Pair<bv4,bool>", "Two(0, true) | Two(1, _)", "Two(0, false)"}, // all heads are asked, ascending
		{"Pair<bv5,bool>", "Two(0, true) | Two(1, _)", "Two(2, _)"},     // the least further one is asked first
		{"Pair<int,bool>", "Two(-1, true) | Two(_, false)", "Two(0, true)"},
		{"Pair<int,bool>", "Two(-1, _) | Two(_, _)", ""},
		{"Byte", "0", "1"},
		{"Nat", "0", "1"},
		{"Row", "None", "Some(_, _)"},
		{"Color", "Red | Blue", "Green"},
		{"Color", "Blue", "Red"},
		{"Color", "Green | Blue | Red", ""},
		{"Loop", "More(More(_))", ""},
		{"Pair<bool,bool>", "Two(true, _) | Two(_, true)", "Two(false, false)"},
		{"Pair<bool,bool>", "Two(false, false) | Two(true, true)", "Two(false, true)"},
		{"Pair<bool,bool>", "Two(false, false) | Two(true, true) | Two(false, true) | Two(true, false)", ""},
		{"Pair<int,int>", "Two(0, 0) | Two(_, 1)", "Two(1, 0)"},
		{"Pair<int,bool>", "Two(0, true) | Two(_, false)", "Two(1, true)"},
		{"Pair<int,bool>", "Two(_, false) | Two(_, true)", ""},
		{"Pair<seq<int>,Cell>", "Two(x, y)", ""},
		{"Mixed", "Of(0, _, _, _, _) | Flag(_)", "Of(1, _, _, _, _)"},
		{"Mixed", "Of(_, None, _, _, _) | Flag(true)", "Of(_, Some(_, _), _, _, _)"},
		{"Mixed", "Of(_, _, _, _, _) | Flag(true)", "Flag(false)"},
		{"Bits", "Both(0, _) | Wide(0)", "Both(1, _)"},
		{"Bits", "Both(0, 1) | Both(1, _)", "Both(0, 0)"},
		{"Bits", "Both(_, _) | Wide(0) | Wide(2)", "Wide(1)"},
		{"Grow<int>", "Node(Node(_)) | Leaf(_)", "Node(Leaf(_))"},
		{"Odd", "Fine | Bad(_)", "Good(_)"},
	} {
		got, is, e := Missing(p, c.typ, listOf(t, split(c.patterns)...))
		if is != (c.want != "") || is && show(got) != c.want || !is && len(got) > 0 || e != api.OK {
			t.Errorf("Missing(%s, %s): %s, %v, %d, want %s", c.typ, c.patterns, show(got), is, e, c.want)
		}
	}
}

// split returns the patterns of a text, which are separated by bars.
func split(text string) []string {
	if text == "" {
		return nil
	}
	return strings.Split(text, " | ")
}

// bits returns the texts of some numbers.
func bits(from, to int) []string {
	var out []string
	for n := from; n <= to; n++ {
		out = append(out, strconv.Itoa(n))
	}
	return out
}

// TestMissingNumbers is for P10.2: numbers of bit vectors, also where all of them are there.
func TestMissingNumbers(t *testing.T) {
	p := programOf(t, samples+"datatype W = X(a: bv5, b: bool)")
	if got, is, e := Missing(p, "bv5", listOf(t, bits(0, 30)...)); show(got) != "31" || !is || e != api.OK {
		t.Errorf("Missing of 31 numbers: %s, %v, %d", show(got), is, e)
	}
	if got, is, e := Missing(p, "bv5", listOf(t, bits(0, 31)...)); is || e != api.OK {
		t.Errorf("Missing of 32 numbers: %s, %v, %d", show(got), is, e)
	}
	if got, is, e := Missing(p, "bv4", listOf(t, bits(0, 14)...)); show(got) != "15" || !is || e != api.OK {
		t.Errorf("Missing of 15 numbers: %s, %v, %d", show(got), is, e)
	}
	var l []api.Tree
	for _, n := range []int{5, 3, 31, 0, 1, 2, 4, 6, 7, 8, 9, 10, 11, 12, 13, 14, 15, 16, 17, 18, 19, 20, 21, 22, 23, 24, 25, 26, 27, 28, 29, 30} {
		part := "_"
		if n == 31 || n == 7 {
			part = "true"
		}
		l = append(l, of(t, "X("+strconv.Itoa(n)+", "+part+")"))
	}
	if got, is, e := Missing(p, "W", l); show(got) != "X(31, false)" || !is || e != api.OK { // 31 comes before 7 in the rows
		t.Errorf("Missing where all numbers are heads: %s, %v, %d", show(got), is, e)
	}
	if is, e := Useful(p, "W", l, of(t, "X(_, false)")); !is || e != api.OK {
		t.Errorf("Useful where all numbers are heads: %v, %d", is, e)
	}
	if is, e := Useful(p, "W", l, of(t, "X(_, true)")); is || e != api.OK {
		t.Errorf("Useful where all numbers are heads, without one: %v, %d", is, e)
	}
}

// TestMissingSize is for P10.2: a missing pattern that would be nested too deep, or have too many nodes, is an error.
func TestMissingSize(t *testing.T) {
	p := programOf(t, "datatype N = S(p: N) | Z")
	nested := func(depth int, last string) api.Tree {
		return of(t, strings.Repeat("S(", depth-1)+last+strings.Repeat(")", depth-1))
	}
	if got, is, e := Missing(p, "N", []api.Tree{nested(59, "Z")}); !is || show(got) != show(nested(60, "_")) || e != api.OK {
		t.Errorf("Missing of 59 levels: %s, %v, %d", show(got), is, e)
	}
	if got, is, e := Missing(p, "N", []api.Tree{nested(60, "Z")}); is || len(got) > 0 || e != api.ErrDeep {
		t.Errorf("Missing of 60 levels: %s, %v, %d", show(got), is, e)
	}
	if got, is, e := Missing(p, "N", []api.Tree{nested(60, "Z"), of(t, "_")}); is || len(got) > 0 || e != api.OK {
		t.Errorf("Missing of 60 levels and all others: %s, %v, %d", show(got), is, e)
	}
	fields := func(number int, typ string) string {
		var out []string
		for i := range number {
			out = append(out, "f_"+strconv.Itoa(i)+": "+typ)
		}
		return strings.Join(out, ", ")
	}
	wide := programOf(t, "datatype U = C("+fields(200, "int")+") datatype V = E("+fields(21, "U")+", last: int)")
	row := func(from, to int) api.Tree { // the parts from one to another one have parts
		parts := slices.Repeat([]string{"_"}, 21)
		for i := from; i < to; i++ {
			parts[i] = "C(" + strings.Repeat("_, ", 199) + "_)"
		}
		return of(t, "E("+strings.Join(parts, ", ")+", 0)")
	}
	for _, c := range []struct {
		middle int
		want   api.Errno
	}{{8, api.OK}, {11, api.ErrMany}} {
		got, is, e := Missing(wide, "V", []api.Tree{row(0, c.middle), row(c.middle, c.middle+10)})
		if nodes := (c.middle+10)*201 + 21 - c.middle - 10 + 2 + 1; e != c.want || is != (e == api.OK) || is && len(got) != nodes || !is && len(got) > 0 {
			t.Errorf("Missing of %d parts: %d nodes, %v, %d", c.middle+10, len(got), is, e)
		}
	}
}

// TestUseful is for P10.2: patterns that match something new, or nothing.
func TestUseful(t *testing.T) {
	p := programOf(t, samples)
	for _, c := range []struct {
		typ, patterns, pattern string
		want                   bool
	}{
		{"int", "", "_", true},
		{"int", "0 | 1", "_", true},
		{"int", "0 | 1", "1", false},
		{"int", "0 | 1", "2", true},
		{"int", "0 | x", "2", false},
		{"int", "0", "-0", false},
		{"bool", "true", "_", true},
		{"bool", "true", "true", false},
		{"bool", "true | false", "_", false},
		{"bv1", "0 | 1", "x", false},
		{"bv5", "0 | 1", "x", true},
		{"D", "Nil | Cons(0, _)", "Nil", false},
		{"D", "Nil | Cons(0, _)", "Cons(0, Nil)", false},
		{"D", "Nil | Cons(0, _)", "Cons(_, Nil)", true},
		{"D", "Nil | Cons(0, _) | Cons(_, Nil)", "Cons(_, Nil)", false},
		{"D", "Nil | Cons(0, _) | Cons(_, Nil)", "Cons(x, y)", true},
		{"D", "Nil | Cons(_, Nil) | Cons(_, Cons(_, _))", "x", false},
		{"Color", "Red | Green", "_", true},
		{"Color", "Red | Green | Blue", "_", false},
		{"Color", "Red | Green", "Blue", true},
		{"Pair<bool,bool>", "Two(true, _) | Two(_, true)", "Two(_, false)", true},
		{"Pair<bool,bool>", "Two(true, _) | Two(false, true)", "Two(_, true)", false},
		{"Loop", "More(More(_))", "_", false}, // also if the type has no values
		{"Loop", "", "More(_)", true},
		{"Cell", "_", "x", false},
		{"Mixed", "Of(_, _, _, _, _)", "Flag(_)", true},
		{"Mixed", "Of(_, _, _, _, _)", "Of(1, _, _, _, _)", false},
	} {
		if got, e := Useful(p, c.typ, listOf(t, split(c.patterns)...), of(t, c.pattern)); got != c.want || e != api.OK {
			t.Errorf("Useful(%s, %s, %s): %v, %d", c.typ, c.patterns, c.pattern, got, e)
		}
	}
}

// TestRedundant is for P10.2: patterns that are not useful behind those before them that are not redundant.
func TestRedundant(t *testing.T) {
	p := programOf(t, samples)
	for _, c := range []struct {
		typ, patterns string
		want          []int
	}{
		{"D", "", nil},
		{"D", "Nil | Cons(0, _) | Nil | Cons(0, Nil)", []int{2, 3}},
		{"D", "_ | _ | Nil", []int{1, 2}},
		{"D", "Nil | Cons(_, _) | _", []int{2}},
		{"D", "Nil | Cons(_, Nil) | _", nil},
		{"int", "0 | 0 | 1 | x | 1", []int{1, 4}},
		{"bool", "true | false | _", []int{2}},
		{"bool", "true | true | _ | _", []int{1, 3}},
		{"Pair<bool,bool>", "Two(true, _) | Two(_, true) | Two(_, false) | Two(false, _)", []int{3}},
		{"Pair<bool,bool>", "Two(true, _) | Two(false, true) | Two(_, true) | Two(false, false)", []int{2}},
	} {
		if got, e := Redundant(p, c.typ, listOf(t, split(c.patterns)...)); !slices.Equal(got, c.want) || e != api.OK {
			t.Errorf("Redundant(%s, %s): %v, %d, want %v", c.typ, c.patterns, got, e, c.want)
		}
	}
}

// plain is a pattern as the document tells of it: a head, which is empty for variables and wildcards, and parts.
type plain struct {
	head  string
	parts []plain
}

// plainOf returns a tree as a plain pattern.
func plainOf(p api.Tree, node int) plain {
	switch n := p[node]; n.Op {
	case api.PCons:
		out := plain{head: n.Text}
		for _, kid := range n.Kids {
			out.parts = append(out.parts, plainOf(p, kid))
		}
		return out
	case api.PLit:
		return plain{head: strings.Replace(show(walk.Sub(p, n.Kids[0])), "-0", "0", 1)}
	}
	return plain{}
}

// text returns the text of a plain pattern.
func (p plain) text() string {
	if p.head == "" {
		return "_"
	}
	if len(p.parts) == 0 {
		return p.head
	}
	var parts []string
	for _, part := range p.parts {
		parts = append(parts, part.text())
	}
	return p.head + "(" + strings.Join(parts, ", ") + ")"
}

// asked asks about plain patterns as the document says, and counts the rows of the questions.
type asked struct {
	tree  api.Tree
	count int
}

// heads returns all heads of a type, or none if there are always further ones.
func (a *asked) heads(typ string) []string {
	switch typ {
	case "bool":
		return []string{"false", "true"}
	case "bv1":
		return bits(0, 1)
	case "bv2":
		return bits(0, 3)
	}
	var out []string
	list, _ := types.Constructors(a.tree, typ)
	for _, c := range list {
		out = append(out, c.Name)
	}
	return out
}

// parts returns the types of the parts of a head.
func (a *asked) parts(typ, head string) []string {
	var out []string
	list, _ := types.Constructors(a.tree, typ)
	for _, c := range list {
		if c.Name == head {
			for _, f := range c.Fields {
				base, _ := types.Base(a.tree, f.Sort)
				out = append(out, base)
			}
		}
	}
	return out
}

// special returns a row for a head at a column, or false.
func special(row []plain, column int, head string, parts int) ([]plain, bool) {
	at := row[column]
	if at.head == "" {
		at = plain{head, make([]plain, parts)}
	}
	if at.head != head {
		return nil, false
	}
	return slices.Concat(row[:column], at.parts, row[column+1:]), true
}

func specials(rows [][]plain, column int, head string, parts int) [][]plain {
	var out [][]plain
	for _, row := range rows {
		if s, stays := special(row, column, head, parts); stays {
			out = append(out, s)
		}
	}
	return out
}

// rest returns the rows without a head at a column, without it.
func rest(rows [][]plain, column int) [][]plain {
	var out [][]plain
	for _, row := range rows {
		if row[column].head == "" {
			out = append(out, slices.Delete(slices.Clone(row), column, column+1))
		}
	}
	return out
}

// firsts returns the heads at a column.
func firsts(rows [][]plain, column int) []string {
	var out []string
	for _, row := range rows {
		if h := row[column].head; h != "" && !slices.Contains(out, h) {
			out = append(out, h)
		}
	}
	return out
}

// toAsk returns the heads that are asked.
func (a *asked) toAsk(typ string, heads []string) []string {
	if all := a.heads(typ); len(all) > 0 {
		return all
	}
	for n := 0; ; n++ {
		if s := strconv.Itoa(n); !slices.Contains(heads, s) {
			if typ == "bv5" && n > 31 {
				return heads
			}
			return append([]string{s}, heads...)
		}
	}
}

func (a *asked) missing(rows [][]plain, typs []string) ([]plain, bool) {
	a.count += len(rows) + 1
	if len(typs) == 0 {
		return nil, len(rows) == 0
	}
	heads := firsts(rows, 0)
	if len(heads) == 0 {
		out, is := a.missing(rest(rows, 0), typs[1:])
		return append([]plain{{}}, out...), is
	}
	for _, h := range a.toAsk(typs[0], heads) {
		parts := a.parts(typs[0], h)
		if out, is := a.missing(specials(rows, 0, h, len(parts)), slices.Concat(parts, typs[1:])); is {
			return append([]plain{{h, out[:len(parts)]}}, out[len(parts):]...), true
		}
	}
	return nil, false
}

func (a *asked) useful(rows [][]plain, row []plain, typs []string) bool {
	a.count += len(rows) + 1
	if len(typs) == 0 {
		return len(rows) == 0
	}
	heads := firsts(rows, 0)
	if len(heads) == 0 && row[0].head == "" {
		return a.useful(rest(rows, 0), row[1:], typs[1:])
	}
	list := a.toAsk(typs[0], heads)
	if row[0].head != "" {
		list = []string{row[0].head}
	}
	for _, h := range list {
		parts := a.parts(typs[0], h)
		inner, _ := special(row, 0, h, len(parts))
		if a.useful(specials(rows, 0, h, len(parts)), inner, slices.Concat(parts, typs[1:])) {
			return true
		}
	}
	return false
}

// plainRows returns patterns as rows.
func plainRows(l []api.Tree) [][]plain {
	var out [][]plain
	for _, p := range l {
		out = append(out, []plain{plainOf(p, len(p)-1)})
	}
	return out
}

// lawTypes are types whose values are told apart by patterns that are not deep.
var lawTypes = [...]string{"D", "List<bool>", "Pair<Color,D>", "Bits", "bool", "int", "bv2", "Pair<bv1,Bits>", "Pair<bool,Pair<bool,bool>>", "Color"}

// TestCasesRandomly is for P10.2: Missing, Useful and Redundant compared with the document's rules, for random lists.
func TestCasesRandomly(t *testing.T) {
	m := newMaker(t, 102)
	missing, redundant := 0, 0
	for _, typ := range lawTypes {
		for range 150 {
			l := m.patterns(t, typ, m.Intn(7), 1+m.Intn(3))
			rows := plainRows(l)
			a := &asked{tree: m.tree}
			want, is := a.missing(rows, []string{typ})
			got, found, e := Missing(m.tree, typ, l)
			if found != is || e != api.OK || is && show(got) != want[0].text() {
				t.Fatalf("Missing(%s, %s): %s, %v, %d, want %v", typ, showAll(l), show(got), found, e, want)
			}
			if is {
				missing++
			}
			var none []int
			var before [][]plain
			for i, row := range rows {
				is := a.useful(before, row, []string{typ})
				if got, e := Useful(m.tree, typ, l[:i], l[i]); got != a.useful(rows[:i], row, []string{typ}) || got != is || e != api.OK {
					t.Fatalf("Useful(%s, %s, %s): %v, %d", typ, showAll(l[:i]), show(l[i]), got, e)
				}
				if is {
					before = append(before, row)
				} else {
					none = append(none, i)
					redundant++
				}
			}
			if got, e := Redundant(m.tree, typ, l); !slices.Equal(got, none) || e != api.OK {
				t.Fatalf("Redundant(%s, %s): %v, %d, want %v", typ, showAll(l), got, e, none)
			}
		}
	}
	if missing < 300 || redundant < 300 {
		t.Errorf("%d missing patterns, %d redundant ones", missing, redundant)
	}
}
