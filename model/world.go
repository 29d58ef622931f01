package model

import (
	"strconv"

	"entail/api"
	"entail/common"
	"entail/term"
)

// sort is a sort taken apart.
type sort struct {
	name   string
	kind   string
	parts  []*sort
	isDeep bool // whether datatypes are in it
}

// The kinds of sorts that a signature declares. All kinds have the names that term.Parts gives them.
const (
	uninterpreted = "Sort"
	datatype      = "Data"
)

// world is a signature with a model of it, and with what was found out about both.
type world struct {
	sig     api.Signature
	plain   api.Signature // the same sorts without all else, which is faster to read
	datas   map[string]api.Datatype
	sizes   map[string]int // of the uninterpreted sorts
	domains []Domain
	tables  map[string]*Table
	isOpen  func(*symbol, []api.Value) bool // whether a result that is in no table is unknown; nil if none is
	sorts   map[string]*sort
	symbols map[string]*symbol
	zeros   map[string]api.Value // of the datatypes
	counts  map[extent]int
	lists   map[extent][]api.Value
}

// newWorld returns a signature whose uninterpreted sorts have a number of elements, without tables, or its error.
func newWorld(sig api.Signature, size int) (*world, api.Errno) {
	if e := term.CheckSignature(sig); e != api.OK {
		return nil, e
	}
	w := &world{
		sig:     sig,
		plain:   api.Signature{Sorts: sig.Sorts},
		datas:   map[string]api.Datatype{},
		sizes:   map[string]int{},
		tables:  map[string]*Table{},
		sorts:   map[string]*sort{},
		symbols: map[string]*symbol{},
		zeros:   map[string]api.Value{},
		counts:  map[extent]int{},
		lists:   map[extent][]api.Value{},
	}
	for _, name := range []string{api.SortBool, api.SortInt, api.SortReal} {
		w.sorts[name] = &sort{name: name, kind: name}
	}
	for _, name := range sig.Sorts {
		w.sizes[name] = size
		w.sorts[name] = &sort{name: name, kind: uninterpreted}
	}
	for i, d := range sig.Datas {
		w.datas[d.Sort] = d
		w.sorts[d.Sort] = &sort{name: d.Sort, kind: datatype, isDeep: true}
		w.plain.Datas = append(w.plain.Datas, api.Datatype{Sort: d.Sort, Cons: []api.Cons{{Name: "c" + strconv.Itoa(i)}}})
	}
	return w, api.OK
}

// sort returns a sort, and whether there is one.
func (w *world) sort(name string) (*sort, bool) {
	if s, found := w.sorts[name]; found {
		return s, true
	}
	kind, parts, e := term.Parts(w.plain, name)
	if e != api.OK {
		return nil, false
	}
	s := &sort{name: name, kind: kind}
	for _, part := range parts {
		p := w.known(part)
		s.parts = append(s.parts, p)
		s.isDeep = s.isDeep || p.isDeep
	}
	w.sorts[name] = s
	return s, true
}

// known returns a sort of which it is known that there is one.
func (w *world) known(name string) *sort {
	s, _ := w.sort(name)
	return s
}

// fieldSorts returns the sorts of the fields of a constructor.
func (w *world) fieldSorts(c api.Cons) []*sort {
	return common.Transform(c.Fields, func(f api.Bound) *sort { return w.known(f.Sort) })
}

// constructor returns the constructor of a datatype with a name, and whether there is one.
func (w *world) constructor(s *sort, name string) (api.Cons, bool) {
	for _, c := range w.datas[s.name].Cons {
		if c.Name == name {
			return c, true
		}
	}
	return api.Cons{}, false
}
