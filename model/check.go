package model

import (
	"slices"

	"entail/api"
	"entail/common"
)

// The greatest numbers of values of a domain, and of entries of a table.
const (
	maxDomain  = 50
	maxEntries = 300
)

// first returns the error of the first check that has one. A check is made only if those before it find nothing.
func first(checks ...func() api.Errno) api.Errno {
	for _, check := range checks {
		if e := check(); e != api.OK {
			return e
		}
	}
	return api.OK
}

// reader reads a model into a world.
type reader struct {
	*world
	Model
}

// interpret returns a signature with a model of it, or the error of either one.
func interpret(sig api.Signature, m Model) (*world, api.Errno) {
	w, e := newWorld(sig, 0)
	if e != api.OK {
		return nil, e
	}
	r := reader{w, m}
	return w, first(r.shape, r.universes, r.readDomains, r.readTables)
}

// interpretSort returns a signature with a model of it, and one of its sorts.
func interpretSort(sig api.Signature, m Model, name string) (*world, *sort, api.Errno) {
	w, e := interpret(sig, m)
	if e != api.OK {
		return nil, nil, e
	}
	s, found := w.sort(name)
	if !found {
		return nil, nil, api.ErrSort
	}
	return w, s, api.OK
}

func (r reader) shape() api.Errno {
	if len(r.Universes) != len(r.sig.Sorts) || len(r.Tables) != len(r.sig.Funs) {
		return api.ErrShape
	}
	return api.OK
}

func (r reader) universes() api.Errno {
	for i, name := range r.sig.Sorts {
		size := r.Universes[i].Size
		switch {
		case r.Universes[i] != Universe{name, size}:
			return api.ErrName
		case size < 1 || size > MaxSize:
			return api.ErrRange
		}
		r.sizes[name] = size
	}
	return api.OK
}

func (r reader) readDomains() api.Errno {
	for _, d := range r.Domains {
		if e := r.domainError(d); e != api.OK {
			return e
		}
		r.domains = append(r.domains, d)
	}
	return api.OK
}

// domainError returns the error of a domain behind those that were read.
func (r reader) domainError(d Domain) api.Errno {
	s, found := r.sort(d.Sort)
	switch {
	case !found:
		return api.ErrSort
	case r.isSmall(s):
		return api.ErrKind
	case slices.ContainsFunc(r.domains, func(other Domain) bool { return other.Sort == d.Sort }):
		return api.ErrTwice
	case len(d.Values) == 0:
		return api.ErrEmpty
	case len(d.Values) > maxDomain:
		return api.ErrMany
	}
	for i, v := range d.Values {
		switch {
		case !r.has(s, v):
			return api.ErrType
		case contains(d.Values[:i], v):
			return api.ErrTwice
		}
	}
	return api.OK
}

func (r reader) readTables() api.Errno {
	for i, f := range r.sig.Funs {
		t := r.Tables[i]
		if e := r.tableError(r.tabulate(f, &t), t); e != api.OK {
			return e
		}
	}
	return api.OK
}

// tableError returns the error of the table of a function.
func (r reader) tableError(f *symbol, t Table) api.Errno {
	switch {
	case t.Name != f.name:
		return api.ErrName
	case len(t.Entries) > maxEntries:
		return api.ErrMany
	}
	before := Table{}
	for _, entry := range t.Entries {
		if e := r.argumentsError(f, entry.Args); e != api.OK {
			return e
		}
		if !r.has(f.result, entry.Result) {
			return api.ErrType
		}
		if _, found := before.find(entry.Args); found {
			return api.ErrTwice
		}
		before.Entries = append(before.Entries, entry)
	}
	if !r.has(f.result, t.Default) {
		return api.ErrType
	}
	return api.OK
}

// argumentsError returns the error of the arguments of a function.
func (w *world) argumentsError(f *symbol, args []api.Value) api.Errno {
	if len(args) != len(f.args) {
		return api.ErrArgs
	}
	for i, v := range args {
		if !w.has(f.args[i], v) {
			return api.ErrType
		}
	}
	return api.OK
}

// find returns the place of an entry with some arguments, or where it would be added, and whether there is one.
func (t *Table) find(args []api.Value) (int, bool) {
	at, found := len(t.Entries), false
search:
	for i, entry := range t.Entries {
		if slices.EqualFunc(entry.Args, args, same) {
			at, found = i, true
			break search
		}
	}
	return at, found
}

// model returns a copy of the model.
func (w *world) model() Model {
	out := Model{}
	for _, name := range w.sig.Sorts {
		out.Universes = append(out.Universes, Universe{name, w.sizes[name]})
	}
	for _, d := range w.domains {
		out.Domains = append(out.Domains, Domain{d.Sort, common.Transform(d.Values, common.Clone)})
	}
	for _, f := range w.sig.Funs {
		out.Tables = append(out.Tables, w.tables[f.Name].copied())
	}
	return out
}

// copied returns a table that shares no memory with another one.
func (t *Table) copied() Table {
	return Table{t.Name, common.Transform(t.Entries, func(e Entry) Entry {
		return Entry{common.Transform(e.Args, common.Clone), common.Clone(e.Result)}
	}), common.Clone(t.Default)}
}
