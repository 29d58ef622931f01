// Package common holds what the packages of the layers have in common: how lists are transformed, which error comes first, and how values are copied.
package common

import "entail/api"

// Transform returns what a function makes of the elements of a list.
func Transform[A, B any](list []A, f func(A) B) []B {
	out := make([]B, 0, len(list))
	for _, x := range list {
		out = append(out, f(x))
	}
	return out
}

// First returns the first error.
func First(errors ...api.Errno) api.Errno {
	for _, e := range errors {
		if e != api.OK {
			return e
		}
	}
	return api.OK
}

// Clone returns a value that shares no memory with another one.
func Clone(v api.Value) api.Value {
	items := v.Items
	v.Items = nil
	for _, item := range items {
		v.Items = append(v.Items, Clone(item))
	}
	return v
}
