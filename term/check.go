package term

import (
	"entail/api"
	"entail/common"
)

// binding is a bound variable: its place is the quantifier and its position there.
type binding struct {
	api.Bound
	place [2]int
	outer *binding
}

// find returns the innermost binding of a name, or nil.
func (b *binding) find(name string) *binding {
	for b != nil && b.Name != name {
		b = b.outer
	}
	return b
}

// scopes returns the innermost binding at each node of a term. A quantifier has a greater index than its children, so that it comes first here.
func scopes(t api.Terms) []*binding {
	at := make([]*binding, len(t))
	for node := len(t) - 1; node >= 0; node-- {
		scope := at[node]
		for i, v := range t[node].Vars {
			scope = &binding{v, [2]int{node, i}, scope}
		}
		for _, kid := range t[node].Kids {
			at[kid] = scope
		}
	}
	return at
}

// Check returns the sort of a term whose free variables are given.
func Check(sig api.Signature, vars []api.Bound, t api.Terms) (string, api.Errno) {
	s, e := read(sig)
	if e != api.OK {
		return "", e
	}
	if e := CheckForm(t); e != api.OK {
		return "", e
	}
	if e := s.variables(vars); e != api.OK {
		return "", e
	}
	if e := s.check(given(vars), t); e != api.OK {
		return "", e
	}
	return t[len(t)-1].Sort, api.OK
}

// given returns the scope of variables that are given.
func given(vars []api.Bound) *binding {
	var scope *binding
	for i, v := range vars {
		scope = &binding{v, [2]int{-1, i}, scope}
	}
	return scope
}

// check returns the error of the sorts in a term.
func (s *signature) check(free *binding, t api.Terms) api.Errno {
	at, table := scopes(t), forms()
	for p := range nodes(t) {
		var e api.Errno
		switch p.Op {
		case api.LVar:
			e = variableError(p, at[p.index], free)
		case api.LApp:
			e = s.application(p, sortsOf(t, p.Kids))
		case api.LForall, api.LExists:
			e = s.quantifier(p, sortsOf(t, p.Kids))
		default:
			e = operation(p, table[p.Op], sortsOf(t, p.Kids))
		}
		if e != api.OK {
			return e
		}
	}
	return api.OK
}

// sortsOf returns the sorts of some nodes.
func sortsOf(t api.Terms, list []int) []string {
	return common.Transform(list, func(node int) string { return t[node].Sort })
}

// variableError returns the error of a variable that is bound, or one of those that are given.
func variableError(p place, bound, free *binding) api.Errno {
	b := bound.find(p.Name)
	if b == nil {
		b = free.find(p.Name)
	}
	switch {
	case b == nil:
		return api.ErrUnknown
	case b.Bound != api.Bound{Name: p.Name, Sort: p.Sort}:
		return api.ErrSort
	}
	return api.OK
}

// application returns the error of an application to arguments of some sorts.
func (s *signature) application(p place, sorts []string) api.Errno {
	f, found := s.function(p.Name)
	switch {
	case !found:
		return api.ErrUnknown
	case len(sorts) != len(f.Args):
		return api.ErrArgs
	case !sameSorts(sorts, f.Args) || p.Sort != f.Sort:
		return api.ErrSort
	}
	return api.OK
}

// sameSorts reports whether two lists of sorts of one length are equal.
func sameSorts(a, b []string) bool {
	for i := range len(a) {
		if a[i] != b[i] {
			return false
		}
	}
	return true
}

// quantifier returns the error of a quantifier, the sort of whose body is the last one.
func (s *signature) quantifier(p place, sorts []string) api.Errno {
	if !isBool(sorts[len(sorts)-1]) {
		return api.ErrSort
	}
	return common.First(common.Transform(p.Vars, func(v api.Bound) api.Errno { return s.sortError(v.Sort) })...)
}

// operation returns the error of any other node for the sorts of its children.
func operation(p place, f form, sorts []string) api.Errno {
	if f.result == nil {
		return api.OK
	}
	if sort, right := f.result(sorts); !right || sort != p.Sort {
		return api.ErrSort
	}
	return api.OK
}
