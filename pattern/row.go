package pattern

import "entail/common"

// row is patterns for the types of a question.
type row struct {
	patterns []*pattern
}

// caseRow is a row with the number of its case.
type caseRow struct {
	row
	number int
}

func newRow(patterns ...*pattern) row {
	return row{patterns}
}

// replaced returns a row with others in place of the pattern at a column.
func (r row) replaced(column int, by []*pattern) row {
	out := make([]*pattern, len(r.patterns)-1+len(by))
	copy(out, r.patterns[:column])
	copy(out[column:], by)
	copy(out[column+len(by):], r.patterns[column+1:])
	return row{out}
}

// without returns a row without the pattern at a column.
func (r row) without(column int) row {
	return r.replaced(column, nil)
}

// rest returns a row without its first pattern.
func (r row) rest() row {
	return r.without(0)
}

// head returns the head of the pattern at a column.
func (r row) head(column int) head {
	return r.patterns[column].head
}

// first returns the head of the first pattern.
func (r row) first() head {
	return r.head(0)
}

// specialized returns a row with the parts of the pattern at a column in its place, and whether its head there is this one or none.
func (r row) specialized(column int, h head, parts int) (row, bool) {
	switch r.head(column) {
	case h:
		return r.replaced(column, r.patterns[column].parts), true
	case head{}:
		return r.replaced(column, wilds(parts)), true
	}
	return row{}, false
}

// wilds returns patterns that everything matches.
func wilds(number int) []*pattern {
	var out []*pattern
	for range number {
		out = append(out, wild())
	}
	return out
}

// firstHead returns the first column at which a row has a head, and whether there is one.
func (r row) firstHead() (int, bool) {
	at, found := 0, false
search:
	for column := range r.patterns {
		if r.head(column) != (head{}) {
			at, found = column, true
			break search
		}
	}
	return at, found
}

// eachOnce returns the heads in a list, without patterns that have none.
func eachOnce(list []head) []head {
	var out []head
	seen := map[head]bool{{}: true}
	for _, h := range list {
		if !seen[h] {
			seen[h] = true
			out = append(out, h)
		}
	}
	return out
}

// firstHeads returns the heads of the first patterns of rows.
func firstHeads(rows []row) []head {
	return eachOnce(common.Transform(rows, row.first))
}

// specializedRows returns the rows that are specialized for a head at their first patterns.
func specializedRows(rows []row, h head, parts int) []row {
	var out []row
	for _, r := range rows {
		if s, stays := r.specialized(0, h, parts); stays {
			out = append(out, s)
		}
	}
	return out
}
