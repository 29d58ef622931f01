package types

import (
	"slices"
	"strings"

	"entail/api"
	"entail/common"
	"entail/tree"
)

// maxLength is the greatest length of a type string.
const maxLength = 400

// shape is a type taken apart: its head and its arguments.
type shape struct {
	head string
	args []shape
}

// text returns the string of a type.
func (s shape) text() string {
	if len(s.args) == 0 {
		return s.head
	}
	return s.head + "<" + strings.Join(texts(s.args), ",") + ">"
}

// texts returns the strings of some types.
func texts(list []shape) []string {
	return common.Transform(list, shape.text)
}

// equal reports whether two types are the same.
func (s shape) equal(other shape) bool {
	return s.head == other.head && slices.EqualFunc(s.args, other.args, shape.equal)
}

// within reports whether a type is another one, or occurs in it.
func (s shape) within(other shape) bool {
	return s.equal(other) || slices.ContainsFunc(other.args, s.within)
}

// depth returns how deep a type is nested.
func (s shape) depth() int {
	below := 0
	for _, arg := range s.args {
		below = max(below, arg.depth())
	}
	return below + 1
}

// size returns the error of a type that was made.
func (s shape) size() api.Errno {
	if s.depth() > api.MaxDepth || len(s.text()) > maxLength {
		return api.ErrLong
	}
	return api.OK
}

// put returns a type in which variables are replaced by what they are bound to.
func (s shape) put(bound map[string]shape) shape {
	if by, found := bound[s.head]; found && len(s.args) == 0 {
		return by
	}
	return shape{s.head, common.Transform(s.args, func(arg shape) shape { return arg.put(bound) })}
}

// write appends the nodes of a type in post-order.
func (s shape) write(t api.Tree) api.Tree {
	node := api.Node{Op: api.TName, Text: s.head}
	if b, found := builtinOf(s.head); found {
		node = api.Node{Op: b.op, Text: b.width}
	}
	for _, arg := range s.args {
		t = arg.write(t)
		node.Kids = append(node.Kids, len(t)-1)
	}
	return append(t, node)
}

// shapeAt returns the type at a node.
func shapeAt(t api.Tree, node int) shape {
	n := t[node]
	head := n.Text
	for _, b := range builtins() {
		if b.op == n.Op {
			head = b.head + n.Text
		}
	}
	return shape{head, common.Transform(n.Kids, func(kid int) shape { return shapeAt(t, kid) })}
}

// readShape returns the type of a string.
func readShape(s string) (shape, api.Errno) {
	if len(s) > maxLength {
		return shape{}, api.ErrLong
	}
	out, closed := takenApart(s)
	// The string of what was read differs if something follows a closing bracket; names, widths and numbers of arguments are those of a tree.
	if !closed || out.text() != s {
		return shape{}, api.ErrSyntax
	}
	if _, e := tree.Check(out.write(nil)); e != api.OK {
		return shape{}, api.ErrSyntax
	}
	return out, api.OK
}

// takenApart returns what the brackets and commas of a string enclose, and whether all brackets are closed.
func takenApart(s string) (shape, bool) {
	open := []shape{{}} // each type is an argument of the one before it
	for _, c := range s {
		last := len(open) - 1
		switch {
		case c == '<':
			open = append(open, shape{})
		case c != ',' && c != '>':
			open[last].head += string(c)
		case last == 0:
			return shape{}, false
		default:
			outer := &open[last-1]
			outer.args = append(outer.args, open[last])
			open = open[:last]
			if c == ',' {
				open = append(open, shape{})
			}
		}
	}
	return open[0], len(open) == 1
}
