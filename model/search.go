package model

import (
	"slices"

	"entail/api"
	"entail/common"
	"entail/term"
)

// The limits of a search.
const (
	maxFormulas = 50
	maxModels   = 100000
)

// request is a result of a function that is asked for.
type request struct {
	symbol *symbol
	args   []api.Value
}

// search looks for a model in which formulas are true. Results of functions are left open until a formula depends on them; then each possible one is tried. So what is tried stands for all candidate models that differ in other results alone.
type search struct {
	*world
	terms    []api.Terms
	formulas []*evaluation
	choices  map[string]choice
	wanted   *request // the first open result in a formula
	tried    int
	limit    int
	broken   api.Errno // of elements that are no values
}

// Find searches for a model of some formulas.
func Find(sig api.Signature, l []api.Terms, size, limit int) (Model, bool, api.Errno) {
	w, e := newWorld(sig, size)
	if e != api.OK {
		return Model{}, false, e
	}
	if e := formulasError(sig, l); e != api.OK {
		return Model{}, false, e
	}
	if size < 1 || size > MaxSize || limit < 1 || limit > maxModels {
		return Model{}, false, api.ErrRange
	}
	s := &search{world: w, terms: l, choices: map[string]choice{}, limit: limit}
	if e := first(s.reset, s.checkZeros, s.readQuantifiers, s.begin); e != api.OK {
		return Model{}, false, e
	}
	found, e := s.solve(s.formulas)
	if e != api.OK || !found {
		return Model{}, false, e
	}
	return w.model(), true, api.OK
}

// formulasError returns the error of a list of formulas.
func formulasError(sig api.Signature, l []api.Terms) api.Errno {
	if len(l) > maxFormulas {
		return api.ErrMany
	}
	for _, t := range l {
		sort, e := term.Check(sig, nil, t)
		switch {
		case e != api.OK:
			return e
		case sort != api.SortBool:
			return api.ErrSort
		}
	}
	return api.OK
}

// checkZeros returns the error if a table has a result that is no value.
func (s *search) checkZeros() api.Errno {
	for _, t := range s.tables {
		if !fits(t.Default) {
			return api.ErrLarge
		}
	}
	return api.OK
}

// readQuantifiers gives the sorts of the quantifiers domains, as far as they are not small.
func (s *search) readQuantifiers() api.Errno {
	seen := map[string]bool{}
	for _, n := range slices.Concat(s.terms...) {
		for _, v := range n.Vars {
			of := s.known(v.Sort)
			if seen[v.Sort] || s.isSmall(of) {
				continue
			}
			seen[v.Sort] = true
			values := s.candidates(of).list
			switch {
			case s.broken != api.OK:
				return s.broken
			case len(values) > maxDomain:
				return api.ErrMany
			}
			s.domains = append(s.domains, Domain{v.Sort, values})
		}
	}
	return api.OK
}

func (s *search) begin() api.Errno {
	s.formulas = common.Transform(s.terms, func(t api.Terms) *evaluation { return s.newEvaluation(t, nil) })
	s.isOpen = s.opens
	return api.OK
}

// choice is the elements of a sort in the order in which they are tried, and ascending.
type choice struct {
	list, ascending []api.Value
}

// candidates returns the elements of a sort, and notes if one of them is no value.
func (s *search) candidates(of *sort) choice {
	if _, found := s.choices[of.name]; !found {
		list := s.elementsOf(of)
		if slices.ContainsFunc(list, func(v api.Value) bool { return !s.has(of, v) }) {
			s.broken = api.ErrLarge
		}
		s.choices[of.name] = choice{list, slices.SortedFunc(slices.Values(list), Compare)}
	}
	return s.choices[of.name]
}

func (s *search) elementsOf(of *sort) []api.Value {
	switch {
	case s.isSmall(of):
		return s.list(all(of))
	case of.kind == api.SortInt:
		return s.numbers(of, ofInt("1"))
	case of.kind == api.SortReal:
		return s.numbers(of, ofReal("1"))
	}
	return s.list(extent{of, someElements, anyDepth})
}

// numbers returns 0, 1, the numerals of a sort in the formulas, and these plus and minus 1. (A number with too many digits becomes no value.)
func (s *search) numbers(of *sort, one api.Value) []api.Value {
	out := []api.Value{s.zero(of), one}
	seen := map[string]bool{out[0].Num: true, one.Num: true}
	for _, n := range slices.Concat(s.terms...) {
		if n.Op != api.LNum || n.Sort != of.name {
			continue
		}
		v := numeral(n)
		more, _ := computed(api.LAdd, v, one)
		less, _ := computed(api.LSub, v, one)
		for _, v := range []api.Value{v, more, less} {
			if !seen[v.Num] {
				seen[v.Num] = true
				out = append(out, v)
			}
		}
	}
	return out
}

// opens reports whether a result is one of those that are tried, and notes it if it is the first one. Without such elements as arguments the result is the zero.
func (s *search) opens(f *symbol, args []api.Value) bool {
	for i, v := range args {
		if _, found := slices.BinarySearchFunc(s.candidates(f.args[i]).ascending, v, Compare); !found {
			return false
		}
	}
	if s.wanted == nil {
		s.wanted = &request{f, args}
	}
	return true
}

// The values of a formula, as far as it is known.
const (
	undecided = iota
	refuted
	confirmed
)

// truth returns the value of a formula, which is false where it has an error. It notes the first open result that it depends on.
func (s *search) truth(f *evaluation) int {
	s.wanted = nil
	v, e := f.run()
	switch {
	case s.wanted != nil && (e != api.OK || isUnknown(v)):
		return undecided
	case e != api.OK || !isTrue(v):
		return refuted
	}
	return confirmed
}

// solve reports whether there are results with which some formulas are true. All others are true already.
func (s *search) solve(formulas []*evaluation) (bool, api.Errno) {
	var open []*evaluation
	var next *request
	for _, f := range formulas {
		truth := s.truth(f)
		switch {
		case s.broken != api.OK:
			return false, s.broken
		case truth == refuted:
			return false, s.count()
		case truth == undecided:
			open = append(open, f)
			if next == nil {
				next = s.wanted
			}
		}
	}
	if next == nil {
		return s.confirm()
	}
	return s.branch(next, open)
}

// count notes that something was tried in vain.
func (s *search) count() api.Errno {
	s.tried++
	if s.tried > s.limit {
		return api.ErrLimit
	}
	return api.OK
}

// confirm reports whether all formulas are true if the open results are zeros. They are, unless one of them has an error there; then these results are tried, too.
func (s *search) confirm() (bool, api.Errno) {
	s.isOpen = nil
	holds := !slices.ContainsFunc(s.formulas, func(f *evaluation) bool { return s.truth(f) != confirmed })
	s.isOpen = s.opens
	if holds {
		return true, api.OK
	}
	for _, f := range s.formulas {
		if s.truth(f); s.wanted != nil {
			return s.branch(s.wanted, s.formulas)
		}
	}
	return false, s.count()
}

// branch tries the possible results of a request.
func (s *search) branch(r *request, formulas []*evaluation) (bool, api.Errno) {
	t := s.tables[r.symbol.name]
	entries := t.Entries
	if len(entries) == maxEntries {
		return false, api.ErrMany
	}
	results := s.candidates(r.symbol.result).list
	if s.broken != api.OK {
		return false, s.broken
	}
	for _, v := range results {
		t.Entries = append(slices.Clip(entries), Entry{r.args, v})
		if found, e := s.solve(formulas); found || e != api.OK {
			return found, e
		}
	}
	t.Entries = entries
	return false, api.OK
}
