package model

import (
	"math/rand"
	"slices"
	"strconv"
	"strings"
	"testing"

	"entail/api"
	"entail/term"
)

// datatypeOf returns a datatype of a text like "L = nil | cons head:E tail:L".
func datatypeOf(text string) api.Datatype {
	name, rest, _ := strings.Cut(text, " = ")
	d := api.Datatype{Sort: name}
	for _, part := range strings.Split(rest, " | ") {
		words := strings.Fields(part)
		c := api.Cons{Name: words[0]}
		for _, field := range words[1:] {
			name, sort, _ := strings.Cut(field, ":")
			c.Fields = append(c.Fields, api.Bound{Name: name, Sort: sort})
		}
		d.Cons = append(d.Cons, c)
	}
	return d
}

// sigOf returns a signature of the names of sorts, datatypes and functions like "f E Int -> Bool".
func sigOf(sorts string, datas, funs []string) api.Signature {
	sig := api.Signature{Sorts: strings.Fields(sorts)}
	for _, text := range datas {
		sig.Datas = append(sig.Datas, datatypeOf(text))
	}
	for _, text := range funs {
		left, sort, _ := strings.Cut(text, " -> ")
		words := strings.Fields(left)
		sig.Funs = append(sig.Funs, api.Fun{Name: words[0], Args: words[1:], Sort: sort})
	}
	return sig
}

// sigG is the signature of the document's examples.
func sigG() api.Signature {
	return sigOf("E", []string{"L = nil | cons head:E tail:L"}, []string{"c -> E", "f E -> E", "p E -> Bool"})
}

// exampleModel is the model M of the document's examples.
func exampleModel() Model {
	return Model{
		Universes: []Universe{{"E", 2}},
		Tables: []Table{
			{"c", nil, ref(0)},
			{"f", []Entry{{[]api.Value{ref(0)}, ref(1)}}, ref(0)},
			{"p", []Entry{{[]api.Value{ref(1)}, truth(true)}}, truth(false)},
		},
	}
}

// wideSig is a signature with sorts and functions of all kinds.
func wideSig() api.Signature {
	return sigOf("E F", []string{
		"L = nil | cons head:E tail:L",
		"Color = red | green | blue",
		"Box = box inside:Map<Color,E> more:Seq<Box>",
		"Pair = pair fst:Int snd:Bool",
	}, []string{
		"c -> E", "o -> F", "n -> Int", "r -> Real", "b -> Bool", "s -> Seq<Int>", "t -> Set<E>", "m -> Map<Int,Bool>", "d -> Color", "l -> L",
		"f E -> E", "p E F -> Bool", "g Int -> Int", "h Color Bool -> L", "k Map<E,Bool> -> Int", "q Seq<E> Set<Int> -> Pair",
	})
}

func ref(n int) api.Value {
	return api.Value{Kind: api.VRef, Num: strconv.Itoa(n)}
}

func truth(is bool) api.Value {
	return api.Value{Kind: api.VBool, Num: map[bool]string{false: "0", true: "1"}[is]}
}

func integer(s string) api.Value {
	return api.Value{Kind: api.VInt, Num: s}
}

func fraction(s string) api.Value {
	return api.Value{Kind: api.VReal, Num: s}
}

func seq(items ...api.Value) api.Value {
	return api.Value{Kind: api.VSeq, Items: items}
}

func setOf(items ...api.Value) api.Value {
	return api.Value{Kind: api.VSet, Items: items}
}

func mapOf(items ...api.Value) api.Value {
	return api.Value{Kind: api.VMap, Items: items}
}

func cons(name string, items ...api.Value) api.Value {
	return api.Value{Kind: api.VCons, Text: name, Items: items}
}

// numbers returns integers.
func numbers(from, to int) []api.Value {
	var out []api.Value
	for n := from; n <= to; n++ {
		out = append(out, integer(strconv.Itoa(n)))
	}
	return out
}

// shown returns the text of a value, with its fields where the text does not show them.
func shown(v api.Value) string {
	if v.Kind < 0 || v.Kind >= api.Kinds || v.Kind == api.VMap && len(v.Items) == 0 {
		return "no value"
	}
	return text(v)
}

// showAll returns the texts of values.
func showAll(l []api.Value) string {
	var out []string
	for _, v := range l {
		out = append(out, shown(v))
	}
	return strings.Join(out, " ")
}

// isNothing reports whether a value is the zero value.
func isNothing(v api.Value) bool {
	return v.Kind == 0 && v.Num == "" && v.Text == "" && len(v.Items) == 0
}

// equal compares values field by field.
func equal(a, b api.Value) bool {
	return a.Kind == b.Kind && a.Num == b.Num && a.Text == b.Text && slices.EqualFunc(a.Items, b.Items, equal)
}

// readTerm returns the term of a text.
func readTerm(t *testing.T, sig api.Signature, vars []api.Bound, text string) api.Terms {
	t.Helper()
	out, at, e := term.Parse(sig, vars, text)
	if e != api.OK {
		t.Fatalf("the term %.200q: %d at %d", text, e, at)
	}
	return out
}

// firstModel returns the first model of a size.
func firstModel(t *testing.T, sig api.Signature, size int) Model {
	t.Helper()
	m, e := First(sig, size)
	if e != api.OK {
		t.Fatalf("First: %d", e)
	}
	return m
}

// badSignatures are signatures with errors.
func badSignatures() map[api.Errno]api.Signature {
	return map[api.Errno]api.Signature{
		api.ErrName:  sigOf("E Int", nil, nil),
		api.ErrTwice: sigOf("E E", nil, nil),
		api.ErrSort:  sigOf("E", nil, []string{"f G -> E"}),
		api.ErrCycle: sigOf("", []string{"D = more rest:D"}, nil),
		api.ErrEmpty: {Datas: []api.Datatype{{Sort: "D"}}},
		api.ErrMany:  {Sorts: make([]string, 101)},
	}
}

// definition computes elements and zeros as the document tells of them.
type definition struct {
	sig   api.Signature
	size  int
	known map[string][]string // of sorts the kinds and the parts
	keys  map[string][]api.Value
}

func newDefinition(sig api.Signature, size int) definition {
	return definition{sig, size, map[string][]string{}, map[string][]api.Value{}}
}

// parts returns the kind of a sort and its parts.
func (d definition) parts(sort string) (string, []string) {
	if d.known[sort] == nil {
		kind, parts, _ := term.Parts(d.sig, sort)
		d.known[sort] = append([]string{kind}, parts...)
	}
	return d.known[sort][0], d.known[sort][1:]
}

// first returns the first n elements of a sort, to a depth; without one the depth is negative.
func (d definition) first(sort string, n, depth int) []api.Value {
	kind, parts := d.parts(sort)
	var out []api.Value
	switch kind {
	case "Bool":
		out = []api.Value{truth(false), truth(true)}
	case "Sort":
		for i := range d.size {
			out = append(out, ref(i))
		}
	case "Int", "Real":
		for i := range n {
			v := (i + 1) / 2
			if i%2 == 0 {
				v = -v
			}
			out = append(out, integer(strconv.Itoa(v)))
			if kind == "Real" {
				out[i] = fraction(strconv.Itoa(v) + "/1")
			}
		}
	case "Seq":
		out = d.sequences(d.first(parts[0], n, depth), n)
	case "Set":
		items := d.first(parts[0], 7, depth)
		for bits := range 1 << len(items) {
			v := setOf()
			for i := range items {
				if bits>>i%2 == 1 {
					v.Items = append(v.Items, items[i])
				}
			}
			slices.SortFunc(v.Items, plainCompare)
			out = append(out, v)
		}
	case "Map":
		out = d.maps(parts, n, depth)
	case "Data":
		out = d.applications(sort, n, depth)
	}
	return out[:min(n, len(out))]
}

// sequences returns the first sequences of some items.
func (d definition) sequences(items []api.Value, n int) []api.Value {
	out, last := []api.Value{seq()}, []api.Value{seq()}
	for len(items) > 0 && len(out) < n {
		var next []api.Value
		for _, s := range last {
			for _, v := range items {
				if len(next) < n {
					next = append(next, seq(append(slices.Clone(s.Items), v)...))
				}
			}
		}
		out, last = append(out, next...), next
	}
	return out
}

// maps returns the first maps of a sort.
func (d definition) maps(parts []string, n, depth int) []api.Value {
	keys, values := d.first(parts[0], 7, depth), d.first(parts[1], n, depth)
	var out []api.Value
	if len(values) == 0 {
		return nil
	}
	at := make([]int, len(keys))
	for len(out) < n {
		out = append(out, d.mapOf(parts[0], values[0], func(key api.Value) api.Value {
			if i := slices.IndexFunc(keys, func(k api.Value) bool { return equal(k, key) }); i >= 0 {
				return values[at[i]]
			}
			return values[0]
		}, keys))
		i := 0
		for i < len(at) && at[i] == len(values)-1 {
			at[i] = 0
			i++
		}
		if i == len(at) {
			break
		}
		at[i]++
	}
	return out
}

// mapOf returns the map with the values of a function at some keys, and another value at all others.
func (d definition) mapOf(keySort string, other api.Value, value func(api.Value) api.Value, keys []api.Value) api.Value {
	if d.keys[keySort] == nil {
		d.keys[keySort] = d.first(keySort, 65, -1)
	}
	if all := d.keys[keySort]; len(all) < 65 {
		keys, other = all, value(all[0])
	}
	keys = slices.Clone(keys)
	slices.SortFunc(keys, plainCompare)
	out := mapOf(other)
	for _, key := range keys {
		if v := value(key); !equal(v, other) {
			out.Items = append(out.Items, key, v)
		}
	}
	return out
}

// applications returns the first elements of a datatype.
func (d definition) applications(sort string, n, depth int) []api.Value {
	if depth < 0 {
		var counts []int
		for depth := 0; ; depth++ {
			list := d.applications(sort, n, depth)
			counts = append(counts, len(list))
			k := len(d.sig.Datas)
			last := counts[max(0, depth-k-1):]
			same := len(last) == k+2 && !slices.ContainsFunc(last, func(c int) bool { return c != last[0] })
			if len(list) >= n || same {
				return list
			}
		}
	}
	var out []api.Value
	if depth == 0 {
		return nil
	}
	for _, data := range d.sig.Datas {
		if data.Sort != sort {
			continue
		}
		for _, c := range data.Cons {
			lists := [][]api.Value{nil}
			for _, f := range c.Fields {
				var longer [][]api.Value
				values := d.first(f.Sort, n, depth-1)
				for _, before := range lists {
					for _, v := range values {
						if len(longer) < n {
							longer = append(longer, append(slices.Clone(before), v))
						}
					}
				}
				lists = longer
			}
			for _, items := range lists {
				out = append(out, cons(c.Name, items...))
			}
		}
	}
	return out[:min(n, len(out))]
}

// plainCompare is the order of values as the document tells of it.
func plainCompare(a, b api.Value) int {
	sign := func(less bool) int {
		if less {
			return -1
		}
		return 1
	}
	switch {
	case a.Kind != b.Kind:
		return sign(a.Kind < b.Kind)
	case len(a.Num) != len(b.Num):
		return sign(len(a.Num) < len(b.Num))
	case a.Num != b.Num:
		return sign(a.Num < b.Num)
	case a.Text != b.Text:
		return sign(a.Text < b.Text)
	case len(a.Items) != len(b.Items):
		return sign(len(a.Items) < len(b.Items))
	}
	for i := range a.Items {
		if order := plainCompare(a.Items[i], b.Items[i]); order != 0 {
			return order
		}
	}
	return 0
}

// maker makes random values and terms of a signature.
type maker struct {
	*rand.Rand
	definition
	pools map[string][]api.Value
	funs  map[string][]api.Fun // by the sorts of their results
}

func newMaker(seed int64, sig api.Signature, size int) *maker {
	return &maker{rand.New(rand.NewSource(seed)), newDefinition(sig, size), map[string][]api.Value{}, map[string][]api.Fun{}}
}

// pool returns some values of a sort.
func (m *maker) pool(sort string) []api.Value {
	if _, found := m.pools[sort]; !found {
		m.pools[sort] = m.first(sort, 20, -1)
	}
	return m.pools[sort]
}

// value returns a random value of a sort.
func (m *maker) value(sort string) api.Value {
	list := m.pool(sort)
	return list[m.Intn(len(list))]
}
