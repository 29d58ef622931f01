package pattern

import (
	"slices"

	"entail/api"
	"entail/common"
)

// maxRows is how many rows all questions may have, and 1 more for each of them.
const maxRows = 20000

// asker asks questions about rows.
type asker struct {
	*world
	rows int
}

// count notes a question, and returns the error if there are too many.
func (a *asker) count(rows int) api.Errno {
	a.rows += rows + 1
	if a.rows > maxRows {
		return api.ErrLimit
	}
	return api.OK
}

// missing returns a list of patterns for some types that no row covers, and whether there is one.
func (a *asker) missing(rows []row, kinds []*kind) ([]*pattern, bool, api.Errno) {
	if e := a.count(len(rows)); e != api.OK {
		return nil, false, e
	}
	if len(kinds) == 0 {
		return nil, len(rows) == 0, api.OK
	}
	heads := firstHeads(rows)
	if len(heads) == 0 {
		out, found, e := a.missing(common.Transform(rows, row.rest), kinds[1:])
		return slices.Insert(out, 0, wild()), found, e
	}
	for _, h := range kinds[0].asked(heads) {
		parts := a.parts(kinds[0], h)
		out, found, e := a.missing(specializedRows(rows, h, len(parts)), slices.Concat(parts, kinds[1:]))
		if e != api.OK {
			return nil, false, e
		}
		if found {
			whole := &pattern{h, slices.Clone(out[:len(parts)])}
			return slices.Replace(out, 0, len(parts), whole), true, api.OK
		}
	}
	return nil, false, api.OK
}

// useful reports whether some values of some types match a row, and none of others.
func (a *asker) useful(rows []row, r row, kinds []*kind) (bool, api.Errno) {
	if e := a.count(len(rows)); e != api.OK {
		return false, e
	}
	if len(kinds) == 0 {
		return len(rows) == 0, api.OK
	}
	if r.first() != (head{}) {
		return a.usefulBy(r.first(), rows, r, kinds)
	}
	heads := firstHeads(rows)
	if len(heads) == 0 {
		return a.useful(common.Transform(rows, row.rest), r.rest(), kinds[1:])
	}
	for _, h := range kinds[0].asked(heads) {
		if useful, e := a.usefulBy(h, rows, r, kinds); useful || e != api.OK {
			return useful, e
		}
	}
	return false, api.OK
}

// usefulBy asks for the values whose first one has a head.
func (a *asker) usefulBy(h head, rows []row, r row, kinds []*kind) (bool, api.Errno) {
	parts := a.parts(kinds[0], h)
	special, _ := r.specialized(0, h, len(parts))
	return a.useful(specializedRows(rows, h, len(parts)), special, slices.Concat(parts, kinds[1:]))
}
