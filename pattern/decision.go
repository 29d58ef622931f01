package pattern

import (
	"slices"
	"strconv"
	"strings"

	"entail/api"
	"entail/common"
	"entail/value"
)

// The limits of a decision tree.
const (
	maxTests = 1000
	maxCase  = 31
	maxPath  = 60
)

// none stands for no case and no test.
const none = -1

// column is a part of the value with its path and its type.
type column struct {
	path []int
	kind *kind
}

// compiler makes the table of a decision tree.
type compiler struct {
	asker
	tests []Test
}

// Compile returns the decision tree of a list of patterns.
func Compile(p api.Tree, typ string, l []api.Tree) ([]Test, api.Errno) {
	w, k, rows, e := readList(p, typ, l)
	if e != api.OK {
		return nil, e
	}
	c := compiler{asker: asker{world: w}}
	var cases []caseRow
	for i, r := range rows {
		cases = append(cases, caseRow{r, i})
	}
	if _, e := c.compile(cases, []column{{nil, k}}); e != api.OK {
		return nil, e
	}
	return c.tests, api.OK
}

// compile appends the test of some rows with all behind it, and returns its number.
func (c *compiler) compile(rows []caseRow, columns []column) (int, api.Errno) {
	at := len(c.tests)
	if e := c.count(len(rows)); e != api.OK || at == maxTests {
		return 0, api.ErrLimit
	}
	c.tests = append(c.tests, Test{Leaf: true, Case: none})
	if len(rows) == 0 {
		return at, api.OK
	}
	tested, found := rows[0].firstHead()
	if !found {
		c.tests[at].Case = rows[0].number
		return at, api.OK
	}
	return at, c.test(at, rows, columns, tested)
}

// test makes a test of the part at a column.
func (c *compiler) test(at int, rows []caseRow, columns []column, tested int) api.Errno {
	k := columns[tested].kind
	heads := eachOnce(common.Transform(rows, func(r caseRow) head { return r.head(tested) }))
	out := Test{Path: slices.Clone(columns[tested].path), Else: none}
	for _, h := range heads {
		next, e := c.compile(c.entered(rows, columns, tested, h))
		if e != api.OK {
			return e
		}
		out.Labels, out.Next = append(out.Labels, h.text), append(out.Next, next)
	}
	if !k.complete(heads) {
		otherwise, e := c.compile(others(rows, tested), slices.Delete(slices.Clone(columns), tested, tested+1))
		if e != api.OK {
			return e
		}
		out.Else = otherwise
	}
	c.tests[at] = out
	return api.OK
}

// entered returns the rows that are specialized for a head at a column, and their columns.
func (c *compiler) entered(rows []caseRow, columns []column, tested int, h head) ([]caseRow, []column) {
	var parts []column
	for i, k := range c.parts(columns[tested].kind, h) {
		parts = append(parts, column{append(slices.Clone(columns[tested].path), i), k})
	}
	var out []caseRow
	for _, r := range rows {
		if s, stays := r.specialized(tested, h, len(parts)); stays {
			out = append(out, caseRow{s, r.number})
		}
	}
	return out, slices.Replace(slices.Clone(columns), tested, tested+1, parts...)
}

// others returns the rows without a head at a column, without it.
func others(rows []caseRow, tested int) []caseRow {
	var out []caseRow
	for _, r := range rows {
		if r.head(tested) == (head{}) {
			out = append(out, caseRow{r.without(tested), r.number})
		}
	}
	return out
}

// CheckTests returns the index of the first malformed test of a decision tree, and the error.
func CheckTests(d []Test) (int, api.Errno) {
	switch {
	case len(d) == 0:
		return 0, api.ErrEmpty
	case len(d) > maxTests:
		return 0, api.ErrMany
	}
	led := make([]int, len(d)) // how many lead to each test
	for i, t := range d {
		check := t.checkTest
		if t.Leaf {
			check = t.checkLeaf
		}
		if e := common.First(check(), t.checkOrder(i, len(d)), ledError(i, led[i])); e != api.OK {
			return i, e
		}
		for _, next := range t.leads() {
			led[next]++
		}
	}
	return 0, api.OK
}

// checkLeaf returns the error of a leaf.
func (t Test) checkLeaf() api.Errno {
	children := [2]int{len(t.Labels), len(t.Next)}
	switch {
	case t.Case < none || t.Case > maxCase:
		return api.ErrRange
	case children != [2]int{} || len(t.Path) > 0 || t.Else != 0:
		return api.ErrForm
	}
	return api.OK
}

// checkTest returns the error of a test that is no leaf, but for the tests that it leads to.
func (t Test) checkTest() api.Errno {
	seen := map[string]bool{}
	for _, label := range t.Labels {
		seen[label] = true
	}
	switch {
	case t.Case != 0:
		return api.ErrForm
	case len(t.Labels) == 0:
		return api.ErrEmpty
	case len(t.Labels) != len(t.Next):
		return api.ErrShape
	case len(seen) < len(t.Labels):
		return api.ErrTwice
	case len(t.Path) > maxPath || slices.ContainsFunc(t.Path, func(number int) bool { return number < 0 }):
		return api.ErrRange
	}
	return api.OK
}

// leads returns the tests that a test leads to.
func (t Test) leads() []int {
	out := slices.Clone(t.Next)
	if !t.Leaf && t.Else != none {
		out = append(out, t.Else)
	}
	return out
}

// checkOrder returns the error if a test leads to one that is not a later one of some number.
func (t Test) checkOrder(at, number int) api.Errno {
	for _, next := range t.leads() {
		if next <= at || next >= number {
			return api.ErrOrder
		}
	}
	return api.OK
}

// ledError returns the error of a test to which some others lead, all of which come before it.
func ledError(at, led int) api.Errno {
	switch {
	case led > 1:
		return api.ErrTwice
	case led == 0 && at > 0:
		return api.ErrOpen
	}
	return api.OK
}

// Run returns the index of the case of a decision tree for a value, or -1, and the tests that were made.
func Run(d []Test, v api.Value) (int, int, api.Errno) {
	_, e := CheckTests(d)
	if e := common.First(e, value.Check(v)); e != api.OK {
		return 0, 0, e
	}
	at, made := 0, 0
	for ; !d[at].Leaf; made++ {
		next, e := d[at].next(v)
		if e != api.OK {
			return 0, 0, e
		}
		at = next
	}
	return d[at].Case, made, api.OK
}

// next returns the test that a test leads to for a value.
func (t Test) next(v api.Value) (int, api.Errno) {
	part, found := follow(v, t.Path)
	if !found {
		return 0, api.ErrKind
	}
	i := slices.Index(t.Labels, labelOf(part))
	switch {
	case i >= 0:
		return t.Next[i], api.OK
	case t.Else == none:
		return 0, api.ErrMissing
	}
	return t.Else, api.OK
}

// labelOf returns the text of a value's head.
func labelOf(v api.Value) string {
	if v.Kind == api.VCons {
		return v.Text
	}
	text, _ := value.Text(v)
	return text
}

// Print returns the text of a decision tree.
func Print(d []Test) (string, api.Errno) {
	if _, e := CheckTests(d); e != api.OK {
		return "", e
	}
	var out strings.Builder
	for _, t := range d {
		out.WriteString(strings.Join(t.words(), " ") + "\n")
	}
	return out.String(), api.OK
}

// words returns the words of the line of a test.
func (t Test) words() []string {
	if t.Leaf {
		return []string{"case", strconv.Itoa(t.Case)}
	}
	path := "-"
	if len(t.Path) > 0 {
		path = strings.Join(common.Transform(t.Path, strconv.Itoa), ".")
	}
	out := []string{"test", path}
	for i, label := range t.Labels {
		out = append(out, label, "->", strconv.Itoa(t.Next[i]))
	}
	if t.Else != none {
		out = append(out, "else", strconv.Itoa(t.Else))
	}
	return out
}
