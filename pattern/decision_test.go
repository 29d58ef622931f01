package pattern

import (
	"slices"
	"strconv"
	"strings"
	"testing"

	"entail/api"
)

// TestCompile is for P10.3: the texts of decision trees.
func TestCompile(t *testing.T) {
	p := programOf(t, samples)
	for _, c := range []struct {
		typ, patterns string
		want          []string
	}{
		{"D", "", []string{"case -1"}},
		{"D", "x", []string{"case 0"}},
		{"D", "x | Nil", []string{"case 0"}},
		{"D", "Nil | Cons(0, _) | Cons(_, t)", []string{"test - Nil -> 1 Cons -> 2", "case 0", "test 0 0 -> 3 else 4", "case 1", "case 2"}},
		{"D", "Cons(0, _)", []string{"test - Cons -> 1 else 4", "test 0 0 -> 2 else 3", "case 0", "case -1", "case -1"}},
		{"D", "Nil | x", []string{"test - Nil -> 1 else 2", "case 0", "case 1"}},
		{"D", "Cons(_, Cons(_, Nil)) | Cons(1, _)", []string{
			"test - Cons -> 1 else 10", "test 1 Cons -> 2 else 7", "test 1.1 Nil -> 3 else 4", "case 0",
			"test 0 1 -> 5 else 6", "case 1", "case -1", "test 0 1 -> 8 else 9", "case 1", "case -1", "case -1",
		}},
		{"bool", "true | false", []string{"test - true -> 1 false -> 2", "case 0", "case 1"}},
		{"bool", "false | false", []string{"test - false -> 1 else 2", "case 0", "case -1"}},
		{"int", "1 | -2 | 1 | _", []string{"test - 1 -> 1 -2 -> 2 else 3", "case 0", "case 1", "case 3"}},
		{"bv1", "1 | 0", []string{"test - 1bv1 -> 1 0bv1 -> 2", "case 0", "case 1"}},
		{"bv2", "1 | 0", []string{"test - 1bv2 -> 1 0bv2 -> 2 else 3", "case 0", "case 1", "case -1"}},
		{"Byte", "255", []string{"test - 255bv8 -> 1 else 2", "case 0", "case -1"}},
		{"Color", "Blue | Red | Green", []string{"test - Blue -> 1 Red -> 2 Green -> 3", "case 0", "case 1", "case 2"}},
		{"Color", "Blue | Red | _", []string{"test - Blue -> 1 Red -> 2 else 3", "case 0", "case 1", "case 2"}},
		{"Pair<bool,bool>", "Two(_, true) | Two(false, _)", []string{"test - Two -> 1", "test 1 true -> 2 else 3", "case 0", "test 0 false -> 4 else 5", "case 1", "case -1"}},
		{"Pair<bool,bool>", "Two(_, true) | Two(false, false) | Two(true, _)", []string{
			"test - Two -> 1", "test 1 true -> 2 false -> 3", "case 0", "test 0 false -> 4 true -> 5", "case 1", "case 2",
		}},
	} {
		d, e := Compile(p, c.typ, listOf(t, split(c.patterns)...))
		text, printed := Print(d)
		if want := strings.Join(c.want, "\n") + "\n"; text != want || e != api.OK || printed != api.OK {
			t.Errorf("Compile(%s, %s): %d, %d,\n%swant\n%s", c.typ, c.patterns, e, printed, text, want)
		}
	}
}

// TestCompileBits is for P10.3: of four bits all numbers are all heads, of five bits they are not.
func TestCompileBits(t *testing.T) {
	p := programOf(t, samples)
	for width, numbers := range map[string]int{"bv4": 16, "bv5": 32} {
		d, e := Compile(p, width, listOf(t, bits(0, numbers-1)...))
		if e != api.OK || len(d[0].Labels) != numbers || (d[0].Else == -1) != (width == "bv4") {
			t.Errorf("Compile of all numbers of %s: %v, %d", width, d, e)
		}
	}
}

// leaf returns a leaf.
func leaf(number int) Test {
	return Test{Leaf: true, Case: number}
}

// example returns a decision tree: that of Nil, Cons(0, _), Cons(_, t).
func example() []Test {
	return []Test{
		{Labels: []string{"Nil", "Cons"}, Next: []int{1, 2}, Else: -1},
		leaf(0),
		{Path: []int{0}, Labels: []string{"0"}, Next: []int{3}, Else: 4},
		leaf(1),
		leaf(2),
	}
}

// TestCheckTests is for P10.3: the first test with an error, and the error.
func TestCheckTests(t *testing.T) {
	chain := func(number int) []Test { // each test leads to the next one
		var out []Test
		for i := range number - 1 {
			out = append(out, Test{Labels: []string{"0"}, Next: []int{i + 1}, Else: -1})
		}
		return append(out, leaf(0))
	}
	for name, c := range map[string]struct {
		change func(d []Test) []Test
		at     int
		want   api.Errno
	}{
		"the example":           {func(d []Test) []Test { return d }, 0, api.OK},
		"one leaf":              {func([]Test) []Test { return []Test{leaf(-1)} }, 0, api.OK},
		"nothing":               {func([]Test) []Test { return nil }, 0, api.ErrEmpty},
		"1000 tests":            {func([]Test) []Test { return chain(1000) }, 0, api.OK},
		"1001 tests":            {func([]Test) []Test { return chain(1001) }, 0, api.ErrMany},
		"1001 bad tests":        {func([]Test) []Test { return make([]Test, 1001) }, 0, api.ErrMany},
		"the greatest case":     {func(d []Test) []Test { d[3].Case = 31; return d }, 0, api.OK},
		"no case":               {func(d []Test) []Test { d[3].Case = -1; return d }, 0, api.OK},
		"a case twice":          {func(d []Test) []Test { d[3].Case = 0; return d }, 0, api.OK},
		"a great case":          {func(d []Test) []Test { d[3].Case = 32; return d }, 3, api.ErrRange},
		"a negative case":       {func(d []Test) []Test { d[3].Case = -2; return d }, 3, api.ErrRange},
		"a great case, a path":  {func(d []Test) []Test { d[3].Case, d[3].Path = 32, []int{0}; return d }, 3, api.ErrRange},
		"a leaf's path":         {func(d []Test) []Test { d[1].Path = []int{0}; return d }, 1, api.ErrForm},
		"a leaf's labels":       {func(d []Test) []Test { d[1].Labels = []string{"x"}; return d }, 1, api.ErrForm},
		"a leaf's next test":    {func(d []Test) []Test { d[1].Next = []int{2}; return d }, 1, api.ErrForm},
		"a leaf's else":         {func(d []Test) []Test { d[1].Else = -1; return d }, 1, api.ErrForm},
		"a leaf's later else":   {func(d []Test) []Test { d[1].Else = 2; return d }, 1, api.ErrForm},
		"a test's case":         {func(d []Test) []Test { d[2].Case = 1; return d }, 2, api.ErrForm},
		"a test's case, empty":  {func(d []Test) []Test { d[2].Case, d[2].Labels = -1, nil; return d }, 2, api.ErrForm},
		"no labels":             {func(d []Test) []Test { d[2].Labels = nil; return d }, 2, api.ErrEmpty},
		"no labels and next":    {func(d []Test) []Test { d[2].Labels, d[2].Next = nil, nil; return d }, 2, api.ErrEmpty},
		"no next tests":         {func(d []Test) []Test { d[2].Next = nil; return d }, 2, api.ErrShape},
		"too many next tests":   {func(d []Test) []Test { d[2].Next = []int{3, 4}; return d }, 2, api.ErrShape},
		"too few, twice":        {func(d []Test) []Test { d[0].Labels = []string{"0", "0", "0"}; return d }, 0, api.ErrShape},
		"a label twice":         {func(d []Test) []Test { d[0].Labels[1] = "Nil"; return d }, 0, api.ErrTwice},
		"twice, a bad path":     {func(d []Test) []Test { d[0].Labels[1], d[0].Path = "Nil", []int{-1}; return d }, 0, api.ErrTwice},
		"an empty label":        {func(d []Test) []Test { d[0].Labels[1] = ""; return d }, 0, api.OK},
		"a negative path":       {func(d []Test) []Test { d[2].Path = []int{0, -1}; return d }, 2, api.ErrRange},
		"a long path":           {func(d []Test) []Test { d[2].Path = make([]int, 60); return d }, 0, api.OK},
		"a path too long":       {func(d []Test) []Test { d[2].Path = make([]int, 61); return d }, 2, api.ErrRange},
		"a bad path, no order":  {func(d []Test) []Test { d[2].Path, d[2].Next[0] = []int{-1}, 0; return d }, 2, api.ErrRange},
		"the test itself":       {func(d []Test) []Test { d[2].Next[0] = 2; return d }, 2, api.ErrOrder},
		"an earlier test":       {func(d []Test) []Test { d[2].Next[0] = 1; return d }, 2, api.ErrOrder},
		"a negative test":       {func(d []Test) []Test { d[2].Next[0] = -1; return d }, 2, api.ErrOrder},
		"no such test":          {func(d []Test) []Test { d[2].Next[0] = 5; return d }, 2, api.ErrOrder},
		"an earlier else":       {func(d []Test) []Test { d[2].Else = 0; return d }, 2, api.ErrOrder},
		"itself as else":        {func(d []Test) []Test { d[2].Else = 2; return d }, 2, api.ErrOrder},
		"no such else":          {func(d []Test) []Test { d[2].Else = 5; return d }, 2, api.ErrOrder},
		"a negative else":       {func(d []Test) []Test { d[2].Else = -2; return d }, 2, api.ErrOrder},
		"the first test":        {func(d []Test) []Test { d[0].Next[0] = 0; return d }, 0, api.ErrOrder},
		"two lead to one":       {func(d []Test) []Test { d[0].Else = 3; return d }, 3, api.ErrTwice},
		"one leads twice":       {func(d []Test) []Test { d[2].Else = 3; return d }, 3, api.ErrTwice},
		"two labels, one test":  {func(d []Test) []Test { d[0].Next[1] = 1; return d }, 1, api.ErrTwice},
		"none leads to one":     {func(d []Test) []Test { d[2].Else = -1; return d }, 4, api.ErrOpen},
		"two leaves":            {func([]Test) []Test { return []Test{leaf(0), leaf(0)} }, 1, api.ErrOpen},
		"a bad one, then open":  {func(d []Test) []Test { d[1].Case = 40; d[2].Else = -1; return d }, 1, api.ErrRange},
		"an open one, then bad": {func(d []Test) []Test { d[0] = leaf(0); d[4].Case = 40; return d }, 1, api.ErrOpen},
		"an open bad one":       {func(d []Test) []Test { d[2].Else = -1; d[4].Case = 40; return d }, 4, api.ErrRange},
		"twice, then bad":       {func(d []Test) []Test { d[2].Else = 3; d[4].Case = 40; return d }, 3, api.ErrTwice},
	} {
		d := c.change(example())
		at, e := CheckTests(d)
		if at != c.at || e != c.want {
			t.Errorf("CheckTests of %s: %d, %d, want %d, %d", name, at, e, c.at, c.want)
		}
		if e == api.OK {
			continue
		}
		number, made, e1 := Run(d, api.Value{Kind: -1})
		text, e2 := Print(d)
		if number != 0 || made != 0 || text != "" || e1 != c.want || e2 != c.want {
			t.Errorf("%s: Run %d, %d, %d, Print %q, %d", name, number, made, e1, text, e2)
		}
	}
}

// TestPrint is for P10.3: the text of a decision tree.
func TestPrint(t *testing.T) {
	d := []Test{
		{Path: []int{10, 0, 3}, Labels: []string{"a b", ""}, Next: []int{1, 3}, Else: 2},
		leaf(-1),
		{Labels: []string{"x"}, Next: []int{4}, Else: -1},
		leaf(31),
		leaf(5),
	}
	if got, e := Print(d); got != "test 10.0.3 a b -> 1  -> 3 else 2\ncase -1\ntest - x -> 4\ncase 31\ncase 5\n" || e != api.OK {
		t.Errorf("Print: %q, %d", got, e)
	}
}

// TestRun is for P10.3: cases, how many tests were made, and errors.
func TestRun(t *testing.T) {
	odd := []Test{{Labels: []string{"[1, 2]", "{}", "#3", "1/2", "5bv8", "map[]", "multiset{true}", "M::C"}, Next: []int{1, 2, 3, 4, 5, 6, 7, 8}, Else: -1}}
	for i := range 8 {
		odd = append(odd, leaf(i))
	}
	for _, c := range []struct {
		tests        []Test
		value        string
		number, made int
		want         api.Errno
	}{
		{example(), "Nil()", 0, 1, api.OK},
		{example(), "Cons(0, Nil())", 1, 2, api.OK},
		{example(), "Cons(1, Nil())", 2, 2, api.OK},
		{example(), "Nil(1)", 0, 1, api.OK},
		{example(), "None()", 0, 0, api.ErrMissing},
		{example(), "1", 0, 0, api.ErrMissing},
		{example(), "Cons()", 0, 0, api.ErrKind},
		{example(), "Cons({})", 2, 2, api.OK},
		{[]Test{leaf(-1)}, "1", -1, 0, api.OK},
		{[]Test{{Path: []int{0}, Labels: []string{"0"}, Next: []int{1}, Else: 2}, leaf(0), leaf(1)}, "[0]", 0, 0, api.ErrKind},
		{odd, "[1, 2]", 0, 1, api.OK},
		{odd, "{}", 1, 1, api.OK},
		{odd, "#3", 2, 1, api.OK},
		{odd, "1/2", 3, 1, api.OK},
		{odd, "5bv8", 4, 1, api.OK},
		{odd, "map[]", 5, 1, api.OK},
		{odd, "multiset{true}", 6, 1, api.OK},
		{odd, "M::C(1)", 7, 1, api.OK},
		{odd, "5bv9", 0, 0, api.ErrMissing},
		{odd, "5", 0, 0, api.ErrMissing},
	} {
		number, made, e := Run(c.tests, valueOf(t, c.value))
		if number != c.number || made != c.made || e != c.want {
			t.Errorf("Run(%s): %d, %d, %d, want %d, %d, %d", c.value, number, made, e, c.number, c.made, c.want)
		}
	}
	if number, made, e := Run(example(), api.Value{Kind: api.VInt, Num: "-0"}); number != 0 || made != 0 || e != api.ErrForm {
		t.Errorf("Run of no value: %d, %d, %d", number, made, e)
	}
}

// compiled compiles plain patterns as the document says, and counts the rows of the tests.
type compiled struct {
	asked
	out []Test
}

// place is a path with the type of the part there.
type place struct {
	path []int
	typ  string
}

func (c *compiled) compile(rows [][]plain, cases []int, places []place) int {
	at := len(c.out)
	c.count += len(rows) + 1
	c.out = append(c.out, leaf(-1))
	if len(rows) == 0 {
		return at
	}
	column := slices.IndexFunc(rows[0], func(p plain) bool { return p.head != "" })
	if column < 0 {
		c.out[at].Case = cases[0]
		return at
	}
	here := places[column]
	c.out[at] = Test{Path: here.path, Else: -1}
	heads := firsts(rows, column)
	for _, h := range heads {
		var inner []place
		for i, typ := range c.parts(here.typ, h) {
			inner = append(inner, place{append(slices.Clone(here.path), i), typ})
		}
		var left []int
		for i, row := range rows {
			if _, stays := special(row, column, h, len(inner)); stays {
				left = append(left, cases[i])
			}
		}
		next := c.compile(specials(rows, column, h, len(inner)), left, slices.Concat(places[:column], inner, places[column+1:]))
		c.out[at].Labels, c.out[at].Next = append(c.out[at].Labels, h), append(c.out[at].Next, next)
		if strings.HasPrefix(here.typ, "bv") {
			c.out[at].Labels[len(c.out[at].Labels)-1] += here.typ
		}
	}
	if all := c.heads(here.typ); len(all) == 0 || len(heads) < len(all) {
		var left []int
		for i, row := range rows {
			if row[column].head == "" {
				left = append(left, cases[i])
			}
		}
		next := c.compile(rest(rows, column), left, slices.Delete(slices.Clone(places), column, column+1))
		c.out[at].Else = next
	}
	return at
}

// sameTests compares decision trees.
func sameTests(a, b []Test) bool {
	return slices.EqualFunc(a, b, func(x, y Test) bool {
		return x.Leaf == y.Leaf && x.Case == y.Case && x.Else == y.Else &&
			slices.Equal(x.Path, y.Path) && slices.Equal(x.Labels, y.Labels) && slices.Equal(x.Next, y.Next)
	})
}

// TestCompileRandomly is for P10.3: decision trees compared with the document's rules, for random lists.
func TestCompileRandomly(t *testing.T) {
	m := newMaker(t, 103)
	for _, typ := range lawTypes {
		for range 100 {
			l := m.patterns(t, typ, m.Intn(7), 1+m.Intn(3))
			c := &compiled{asked: asked{tree: m.tree}}
			var cases []int
			for i := range l {
				cases = append(cases, i)
			}
			c.compile(plainRows(l), cases, []place{{nil, typ}})
			d, e := Compile(m.tree, typ, l)
			if !sameTests(d, c.out) || e != api.OK {
				t.Fatalf("Compile(%s, %s): %v, %d, want %v", typ, showAll(l), d, e, c.out)
			}
		}
	}
}

// tower is a program with a type that has two constructors with many parts, and lists of patterns for it that take many questions.
func tower(t *testing.T, width int) api.Tree {
	var fields []string
	for i := range width {
		fields = append(fields, "f_"+strconv.Itoa(i)+": bool")
	}
	return programOf(t, "datatype W = C("+strings.Join(fields, ", ")+")")
}

// diagonal returns patterns each of which has true at some other part.
func diagonal(t *testing.T, width, number int) []api.Tree {
	var out []api.Tree
	for i := range number {
		parts := slices.Repeat([]string{"_"}, width)
		parts[i] = "true"
		out = append(out, of(t, "C("+strings.Join(parts, ", ")+")"))
	}
	return out
}

// TestLimits is for P10.2 and P10.3: questions and tests whose rows are too many. The numbers of rows are those of the document's rules.
func TestLimits(t *testing.T) {
	seen := map[api.Errno]int{}
	for width := 9; width <= 14; width++ {
		p := tower(t, width)
		for number := max(1, width-3); number <= width; number++ {
			l := diagonal(t, width, number)
			rows, typs := plainRows(l), []string{"W"}
			limit := func(count int) api.Errno {
				if count > 20000 {
					return api.ErrLimit
				}
				return api.OK
			}
			all := append(slices.Clone(rows), []plain{{}})
			a := &asked{tree: p}
			a.useful(rows, []plain{{}}, typs)
			if _, e := Useful(p, "W", l, of(t, "_")); e != limit(a.count) {
				t.Errorf("Useful of %d, %d: %d, but %d rows", width, number, e, a.count)
			}
			a.count = 0
			a.missing(all, typs)
			if _, is, e := Missing(p, "W", append(l, of(t, "_"))); e != limit(a.count) || is {
				t.Errorf("Missing of %d, %d: %d, but %d rows", width, number, e, a.count)
			} else {
				seen[e]++
			}
			a.count = 0
			for i, row := range all {
				a.useful(all[:i], row, typs)
			}
			if got, e := Redundant(p, "W", append(l, of(t, "_"))); e != limit(a.count) || len(got) > 0 {
				t.Errorf("Redundant of %d, %d: %v, %d, but %d rows", width, number, got, e, a.count)
			}
		}
	}
	if seen[api.OK] == 0 || seen[api.ErrLimit] == 0 {
		t.Errorf("Missing: %v", seen)
	}
}

// limit returns the error for some rows of questions.
func limit(rows int) api.Errno {
	if rows > 20000 {
		return api.ErrLimit
	}
	return api.OK
}

// TestLimitOfQuestions is for P10.2: 20000 rows are permitted, 20001 are not.
func TestLimitOfQuestions(t *testing.T) {
	var fields []string
	for i := range 663 {
		fields = append(fields, "f_"+strconv.Itoa(i)+": int")
	}
	p := programOf(t, "datatype W = C("+strings.Join(fields, ", ")+", last: bool)")
	row := func(last string) api.Tree { return of(t, "C("+strings.Repeat("_, ", 663)+last+")") }
	for number, want := range map[int]int{10: 20000, 9: 20001} { // with the last part true
		l := append(slices.Repeat([]api.Tree{row("true")}, number), slices.Repeat([]api.Tree{row("_")}, 29-number)...)
		a := &asked{tree: p}
		a.missing(plainRows(l), []string{"W"})
		if _, is, e := Missing(p, "W", l); a.count != want || is || e != limit(want) {
			t.Errorf("Missing of %d rows: %v, %d", a.count, is, e)
		}
		a.count = 0
		a.useful(plainRows(l), []plain{{}}, []string{"W"})
		if is, e := Useful(p, "W", l, of(t, "_")); a.count != want || is || e != limit(want) {
			t.Errorf("Useful of %d rows: %v, %d", a.count, is, e)
		}
	}
}

// blocks is a list of patterns whose decision tree grows with the numbers of parts that the first patterns have, and by a little with the others.
type blocks struct {
	parts               []int
	wild, numbers, same int
}

// patterns returns the list.
func (b blocks) patterns(t *testing.T, width int) []api.Tree {
	var out []api.Tree
	from := 0
	for _, number := range b.parts {
		parts := slices.Repeat([]string{"_"}, width)
		for range number {
			parts[from] = "true"
			from++
		}
		out = append(out, of(t, "A(C("+strings.Join(parts, ", ")+"))"))
	}
	for range b.wild {
		out = append(out, of(t, "A(_)"))
	}
	for i := range b.numbers {
		out = append(out, of(t, "B("+strconv.Itoa(i)+")"))
	}
	for range b.same {
		out = append(out, of(t, "B(0)"))
	}
	return out
}

// TestLimitsOfTrees is for P10.3: 1000 tests and 20000 rows are permitted, 1001 and 20001 are not.
func TestLimitsOfTrees(t *testing.T) {
	const width = 30
	var fields []string
	for i := range width {
		fields = append(fields, "f_"+strconv.Itoa(i)+": bool")
	}
	p := programOf(t, "datatype V = A(w: W) | B(n: int) datatype W = C("+strings.Join(fields, ", ")+")")
	list := []blocks{}
	ones := slices.Repeat([]int{1}, 9)
	for numbers := 7; numbers < 13; numbers++ {
		list = append(list, blocks{slices.Concat(ones, []int{4, 3, 3, 3, 3}), 0, numbers, 0})
	}
	for same := range 4 {
		list = append(list, blocks{[]int{4, 3, 1, 3, 3, 3}, 18, 2, same}, blocks{[]int{4, 3, 1, 3, 3, 3}, 18, 3, same})
	}
	tests, rows := map[int]bool{}, map[int]bool{}
	for _, b := range list {
		l := b.patterns(t, width)
		var cases []int
		for i := range l {
			cases = append(cases, i)
		}
		c := &compiled{asked: asked{tree: p}}
		c.compile(plainRows(l), cases, []place{{nil, "V"}})
		tests[len(c.out)], rows[c.count] = true, true
		d, e := Compile(p, "V", l)
		if over := c.count > 20000 || len(c.out) > 1000; over && (e != api.ErrLimit || len(d) > 0) || !over && (e != api.OK || !sameTests(d, c.out)) {
			t.Errorf("Compile of %v: %d, but %d rows and %d tests", b, e, c.count, len(c.out))
		}
	}
	if !tests[1000] || !tests[1001] || !rows[20000] || !rows[20001] {
		t.Errorf("the limits are not met: %v, %v", tests, rows)
	}
}
