package term

import (
	"slices"

	"entail/api"
	"entail/common"
)

const (
	maxSorts = 100
	maxDatas = 50
	maxFuns  = 1000
	maxCons  = 20
	maxArgs  = 20
	maxList  = 100 // variables and bindings
)

// test is what the name of the test of a constructor begins with.
const test = "is$"

// signature is a signature in which sorts and functions are found by their names.
type signature struct {
	api.Signature
	sorts map[string]string // the kinds of the declared sorts
	funs  map[string]api.Fun
}

// read returns a signature, or its error.
func read(sig api.Signature) (*signature, api.Errno) {
	s := &signature{sig, map[string]string{}, map[string]api.Fun{}}
	for _, check := range []func() api.Errno{s.sizes, s.names, s.datatypes, s.tests, s.functions, s.finite, s.keys} {
		if e := check(); e != api.OK {
			return nil, e
		}
	}
	return s, api.OK
}

func (s *signature) sizes() api.Errno {
	if len(s.Sorts) > maxSorts || len(s.Datas) > maxDatas || len(s.Funs) > maxFuns {
		return api.ErrMany
	}
	return api.OK
}

// names notes the sorts.
func (s *signature) names() api.Errno {
	for _, name := range s.Sorts {
		if e := s.sort(name, uninterpreted); e != api.OK {
			return e
		}
	}
	for _, d := range s.Datas {
		if e := s.sort(d.Sort, datatype); e != api.OK {
			return e
		}
	}
	return api.OK
}

// sort notes a sort.
func (s *signature) sort(name, kind string) api.Errno {
	switch {
	case !isSortName(name):
		return api.ErrName
	case s.sorts[name] != "":
		return api.ErrTwice
	}
	s.sorts[name] = kind
	return api.OK
}

// datatypes notes the constructors and selectors.
func (s *signature) datatypes() api.Errno {
	for _, d := range s.Datas {
		switch {
		case len(d.Cons) == 0:
			return api.ErrEmpty
		case len(d.Cons) > maxCons:
			return api.ErrMany
		}
		for _, c := range d.Cons {
			if e := s.constructor(d.Sort, c); e != api.OK {
				return e
			}
		}
	}
	return api.OK
}

// constructor notes a constructor and its selectors.
func (s *signature) constructor(sort string, c api.Cons) api.Errno {
	if len(c.Fields) > maxArgs {
		return api.ErrMany
	}
	if e := s.symbol(c.Name); e != api.OK {
		return e
	}
	f := api.Fun{Name: c.Name, Sort: sort}
	s.funs[c.Name] = f
	for _, field := range c.Fields {
		if e := s.symbol(field.Name); e != api.OK {
			return e
		}
		if s.isNone(field.Sort) {
			return api.ErrSort
		}
		s.funs[field.Name] = api.Fun{Name: field.Name, Args: []string{sort}, Sort: field.Sort}
		f.Args = append(f.Args, field.Sort)
	}
	s.funs[c.Name] = f
	return api.OK
}

// symbol returns the error of the name of a new symbol.
func (s *signature) symbol(name string) api.Errno {
	_, taken := s.interpreted(name)
	_, found := s.funs[name]
	switch {
	case taken || !isSymbol(name):
		return api.ErrName
	case found:
		return api.ErrTwice
	}
	return api.OK
}

// tests notes the tests of the constructors.
func (s *signature) tests() api.Errno {
	var all []api.Fun
	for _, d := range s.Datas {
		for _, c := range d.Cons {
			all = append(all, api.Fun{Name: test + c.Name, Args: []string{d.Sort}, Sort: api.SortBool})
		}
	}
	for _, f := range all {
		if _, found := s.funs[f.Name]; found {
			return api.ErrTwice
		}
	}
	for _, f := range all {
		s.funs[f.Name] = f
	}
	return api.OK
}

// functions notes the functions.
func (s *signature) functions() api.Errno {
	for _, f := range s.Funs {
		if e := s.symbol(f.Name); e != api.OK {
			return e
		}
		switch {
		case len(f.Args) > maxArgs:
			return api.ErrMany
		case slices.ContainsFunc(f.Args, s.isNone) || s.isNone(f.Sort):
			return api.ErrSort
		}
		s.funs[f.Name] = f
	}
	return api.OK
}

// function returns the function with a name, and whether there is one.
func (s *signature) function(name string) (api.Fun, bool) {
	if f, found := s.funs[name]; found {
		f.Args = slices.Clone(f.Args)
		return f, true
	}
	return s.interpreted(name)
}

// finite returns the error of a datatype without finite elements.
func (s *signature) finite() api.Errno {
	known := map[string]bool{}
	for range s.Datas {
		for _, d := range s.Datas {
			known[d.Sort] = known[d.Sort] || slices.ContainsFunc(d.Cons, func(c api.Cons) bool {
				return !slices.ContainsFunc(c.Fields, func(f api.Bound) bool { return !s.hasFinite(f.Sort, known) })
			})
		}
	}
	for _, d := range s.Datas {
		if !known[d.Sort] {
			return api.ErrCycle
		}
	}
	return api.OK
}

// hasFinite reports whether a sort has finite elements, as far as the datatypes that have are known.
func (s *signature) hasFinite(sort string, known map[string]bool) bool {
	switch kind, parts := s.parts(sort); kind {
	case datatype:
		return known[sort]
	case "Map":
		return s.hasFinite(parts[1], known)
	}
	return true
}

// reach says which datatypes the fields of a datatype have in them, anywhere and in the keys of maps.
type reach struct {
	within, keyed map[string]bool
}

// keys returns the error of a datatype that reaches a map whose keys reach the datatype. (Then a datatype has, in a field, a map with a datatype in its key that reaches the former one.)
func (s *signature) keys() api.Errno {
	reaches := map[string]reach{}
	for _, d := range s.Datas {
		r := reach{map[string]bool{}, map[string]bool{}}
		for _, c := range d.Cons {
			for _, f := range c.Fields {
				s.collect(r, f.Sort, false)
			}
		}
		reaches[d.Sort] = r
	}
	for _, between := range s.Datas { // as paths are closed: by one sort on the way after the other
		for _, d := range s.Datas {
			if !reaches[d.Sort].within[between.Sort] {
				continue
			}
			for _, to := range s.Datas {
				if reaches[between.Sort].within[to.Sort] {
					reaches[d.Sort].within[to.Sort] = true
				}
			}
		}
	}
	for _, d := range s.Datas {
		for _, key := range s.Datas {
			if reaches[d.Sort].keyed[key.Sort] && (key.Sort == d.Sort || reaches[key.Sort].within[d.Sort]) {
				return api.ErrCycle
			}
		}
	}
	return api.OK
}

// collect notes the datatypes in a sort, which stands in a key or not.
func (s *signature) collect(r reach, sort string, inKey bool) {
	kind, parts := s.parts(sort)
	if kind == datatype {
		r.within[sort] = true
		r.keyed[sort] = r.keyed[sort] || inKey
	}
	for i := range len(parts) {
		s.collect(r, parts[i], inKey || kind == "Map" && i == 0)
	}
}

// variables returns the error of variables that are given.
func (s *signature) variables(vars []api.Bound) api.Errno {
	if len(vars) > maxList {
		return api.ErrMany
	}
	seen := map[string]bool{}
	for _, v := range vars {
		if e := common.First(variable(v.Name, seen), s.sortError(v.Sort)); e != api.OK {
			return e
		}
	}
	return api.OK
}

// variable returns the error of the name of a variable beside others, and notes it.
func variable(name string, seen map[string]bool) api.Errno {
	switch {
	case !isPlain(name):
		return api.ErrName
	case seen[name]:
		return api.ErrTwice
	}
	seen[name] = true
	return api.OK
}

func (s *signature) sortError(sort string) api.Errno {
	if s.isNone(sort) {
		return api.ErrSort
	}
	return api.OK
}
