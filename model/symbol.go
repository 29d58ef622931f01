package model

import (
	"slices"

	"entail/api"
	"entail/common"
	"entail/num"
	"entail/term"
)

// test is what the names of the tests of constructors begin with.
const test = "is$"

// symbol is a function with its sorts. What it returns may be larger than a value can be.
type symbol struct {
	name   string
	args   []*sort
	result *sort
	apply  func([]api.Value) api.Value
}

// value returns the result of a function, or the error if it is no value.
func (f *symbol) value(args []api.Value) (api.Value, api.Errno) {
	out := f.apply(args)
	if !fits(out) {
		return api.Value{}, api.ErrLarge
	}
	return out, api.OK
}

// symbol returns the function with a name, and whether there is one. (Those that have tables are there when these are.)
func (w *world) symbol(name string) (*symbol, bool) {
	if f, found := w.symbols[name]; found {
		return f, true
	}
	f := w.constructed(name)
	if f == nil {
		f = w.interpreted(name)
	}
	if f == nil {
		return nil, false
	}
	w.symbols[name] = f
	return f, true
}

// constructed returns the function with a name that belongs to a datatype, or nil.
func (w *world) constructed(name string) *symbol {
	for _, d := range w.sig.Datas {
		for _, c := range d.Cons {
			if f := w.ofConstructor(w.known(d.Sort), c, name); f != nil {
				return f
			}
		}
	}
	return nil
}

// tabulate notes the table of a function, and returns the function.
func (w *world) tabulate(f api.Fun, t *Table) *symbol {
	out := &symbol{name: f.Name, args: common.Transform(f.Args, w.known), result: w.known(f.Sort)}
	out.apply = func(args []api.Value) api.Value { return w.tableResult(out, args) }
	w.symbols[f.Name], w.tables[f.Name] = out, t
	return out
}

// tableResult returns the result that a table gives.
func (w *world) tableResult(f *symbol, args []api.Value) api.Value {
	t := w.tables[f.name]
	at, found := t.find(args)
	switch {
	case found:
		return t.Entries[at].Result
	case w.isOpen != nil && w.isOpen(f, args):
		return api.Value{Kind: unknown}
	}
	return t.Default
}

// ofConstructor returns the function with a name that belongs to a constructor, or nil.
func (w *world) ofConstructor(s *sort, c api.Cons, name string) *symbol {
	fields := w.fieldSorts(c)
	switch name {
	case c.Name:
		return &symbol{name, fields, s, func(args []api.Value) api.Value {
			return api.Value{Kind: api.VCons, Text: c.Name, Items: args}
		}}
	case test + c.Name:
		return &symbol{name, []*sort{s}, w.known(api.SortBool), func(args []api.Value) api.Value {
			return ofBool(args[0].Text == c.Name)
		}}
	}
	for i, field := range c.Fields {
		if field.Name == name {
			return &symbol{name, []*sort{s}, fields[i], func(args []api.Value) api.Value {
				if args[0].Text != c.Name {
					return w.zero(fields[i])
				}
				return args[0].Items[i]
			}}
		}
	}
	return nil
}

// operation is an interpreted function for the sorts of a kind.
type operation struct {
	kind, word string
	apply      func(w *world, s *sort, args []api.Value) api.Value
}

// interpreted returns the interpreted function with a name, or nil.
func (w *world) interpreted(name string) *symbol {
	word, sortName := cutName(name)
	s, found := w.sort(sortName)
	if !found {
		return nil
	}
	for _, table := range [...][]operation{numberOperations(), mapOperations(), sequenceOperations(), setOperations()} {
		for _, o := range table {
			if o.kind == s.kind && o.word == word {
				f, _ := term.Function(w.plain, name)
				return &symbol{name, common.Transform(f.Args, w.known), w.known(f.Sort), func(args []api.Value) api.Value { return o.apply(w, s, args) }}
			}
		}
	}
	return nil
}

// cutName returns the word and the sort in the name of an interpreted function.
func cutName(name string) (string, string) {
	for i, c := range name {
		if c == '$' {
			return name[:i], name[i+1:]
		}
	}
	return name, ""
}

func numberOperations() []operation {
	return []operation{
		{"Int", "div", func(_ *world, _ *sort, args []api.Value) api.Value { return divided(args[0], args[1]).quotient }},
		{"Int", "mod", func(_ *world, _ *sort, args []api.Value) api.Value { return divided(args[0], args[1]).remainder }},
		{"Int", "real", func(_ *world, _ *sort, args []api.Value) api.Value { return ofReal(args[0].Num) }},
		{"Real", "floor", func(_ *world, _ *sort, args []api.Value) api.Value {
			floor, _ := num.Floor(args[0].Num)
			return ofInt(floor)
		}},
	}
}

// division is a quotient and a remainder.
type division struct {
	quotient, remainder api.Value
}

// divided divides two integers; by 0 both results are 0.
func divided(a, b api.Value) division {
	quotient, remainder, e := num.DivMod(a.Num, b.Num)
	if e != api.OK {
		quotient, remainder = "0", "0"
	}
	return division{ofInt(quotient), ofInt(remainder)}
}

func mapOperations() []operation {
	return []operation{
		{"Map", "select", func(_ *world, _ *sort, args []api.Value) api.Value { return selected(args[0], args[1]) }},
		{"Map", "store", func(w *world, s *sort, args []api.Value) api.Value { return w.stored(s, args[0], args[1], args[2]) }},
		{"Map", "const", func(_ *world, _ *sort, args []api.Value) api.Value { return constant(args[0]) }},
		{"Map", "diff", func(w *world, s *sort, args []api.Value) api.Value { return w.differing(s, args[0], args[1]) }},
	}
}

func sequenceOperations() []operation {
	return []operation{
		{"Seq", "len", func(_ *world, _ *sort, args []api.Value) api.Value { return ofCount(len(args[0].Items)) }},
		{"Seq", "at", func(w *world, s *sort, args []api.Value) api.Value { return item(args[0], args[1], w.zero(s.parts[0])) }},
		{"Seq", "empty", func(*world, *sort, []api.Value) api.Value { return sequence() }},
		{"Seq", "one", func(_ *world, _ *sort, args []api.Value) api.Value { return sequence(args...) }},
		{"Seq", "cat", func(_ *world, _ *sort, args []api.Value) api.Value {
			return sequence(slices.Concat(args[0].Items, args[1].Items)...)
		}},
		{"Seq", "put", func(_ *world, _ *sort, args []api.Value) api.Value { return put(args[0], args[1], args[2]) }},
		{"Seq", "cut", func(_ *world, _ *sort, args []api.Value) api.Value { return cut(args[0], args[1], args[2]) }},
		{"Seq", "pre", func(_ *world, _ *sort, args []api.Value) api.Value { return ofBool(isPrefix(args[0], args[1])) }},
		{"Seq", "diff", func(_ *world, _ *sort, args []api.Value) api.Value { return ofCount(firstDifference(args[0], args[1])) }},
	}
}

func setOperations() []operation {
	return []operation{
		{"Set", "has", func(_ *world, _ *sort, args []api.Value) api.Value { return ofBool(contains(args[0].Items, args[1])) }},
		{"Set", "empty", func(*world, *sort, []api.Value) api.Value { return set() }},
		{"Set", "one", func(_ *world, _ *sort, args []api.Value) api.Value { return set(args...) }},
		{"Set", "join", func(_ *world, _ *sort, args []api.Value) api.Value { return joined(args[0], args[1]) }},
		{"Set", "meet", func(_ *world, _ *sort, args []api.Value) api.Value { return chosen(args[0], args[1], true) }},
		{"Set", "less", func(_ *world, _ *sort, args []api.Value) api.Value { return chosen(args[0], args[1], false) }},
		{"Set", "sub", func(_ *world, _ *sort, args []api.Value) api.Value { return ofBool(isSubset(args[0], args[1])) }},
		{"Set", "size", func(_ *world, _ *sort, args []api.Value) api.Value { return ofCount(len(args[0].Items)) }},
		{"Set", "diff", func(w *world, s *sort, args []api.Value) api.Value {
			return firstAlone(args[0], args[1], w.zero(s.parts[0]))
		}},
	}
}
