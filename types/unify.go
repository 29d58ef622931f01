package types

import (
	"slices"

	"entail/api"
	"entail/common"
)

// Unify returns the most general unifier of two types, and whether there is one.
func Unify(a, b string, vars []string) ([]Binding, bool, api.Errno) {
	x, ex := readShape(a)
	y, ey := readShape(b)
	if e := common.First(ex, ey, checkVariables(vars)); e != api.OK {
		return nil, false, e
	}
	u := unifier{vars, map[string]shape{}}
	if unified, e := u.unify(x, y); e != api.OK || !unified {
		return nil, false, e
	}
	return u.bindings(), true, api.OK
}

// unifier finds the bindings of variables; no variable with a binding occurs in the type of one.
type unifier struct {
	vars  []string
	bound map[string]shape
}

// none is the place of a type that is no variable.
const none = -1

// place returns the place of a variable in the list.
func (u *unifier) place(s shape) int {
	if len(s.args) > 0 {
		return none
	}
	return slices.Index(u.vars, s.head)
}

// unify makes two types equal, and reports whether they can be.
func (u *unifier) unify(a, b shape) (bool, api.Errno) {
	a, b = a.put(u.bound), b.put(u.bound)
	if e := common.First(a.size(), b.size()); e != api.OK {
		return false, e
	}
	if a.equal(b) {
		return true, api.OK
	}
	places := [2]int{u.place(a), u.place(b)}
	switch {
	case places == [2]int{none, none}:
		return u.arguments(a, b)
	case places[1] == none || places[0] != none && places[0] < places[1]:
		return u.bind(a, b)
	}
	return u.bind(b, a)
}

// bind binds a variable to a type that differs from it.
func (u *unifier) bind(variable, to shape) (bool, api.Errno) {
	if variable.within(to) {
		return false, api.OK
	}
	now := map[string]shape{variable.head: to}
	for name, s := range u.bound {
		u.bound[name] = s.put(now)
	}
	u.bound[variable.head] = to
	for _, s := range u.bound {
		if e := s.size(); e != api.OK {
			return false, e
		}
	}
	return true, api.OK
}

// arguments makes two types equal that are no variables.
func (u *unifier) arguments(a, b shape) (bool, api.Errno) {
	if a.head != b.head || len(a.args) != len(b.args) {
		return false, api.OK
	}
	for i := range a.args {
		if unified, e := u.unify(a.args[i], b.args[i]); e != api.OK || !unified {
			return false, e
		}
	}
	return true, api.OK
}

// bindings returns the bindings in the order of the variables.
func (u *unifier) bindings() []Binding {
	var out []Binding
	for _, name := range u.vars {
		if s, found := u.bound[name]; found {
			out = append(out, Binding{name, s.text()})
		}
	}
	return out
}
