package pattern

import (
	"strings"

	"entail/api"
	"entail/common"
	"entail/num"
	"entail/tree"
	"entail/walk"
)

// pattern is a pattern that is right for a type. Without a head everything matches it.
type pattern struct {
	head  head
	parts []*pattern
}

// wild returns a pattern that everything matches.
func wild() *pattern {
	return &pattern{}
}

// write appends the nodes of a pattern.
func (p *pattern) write(t api.Tree) api.Tree {
	switch p.head.kind {
	case noHead:
		return append(t, api.Node{Op: api.PWild})
	case ofLiteral:
		t = writeLiteral(t, p.head.text)
		return append(t, api.Node{Op: api.PLit, Kids: []int{len(t) - 1}})
	}
	root := api.Node{Op: api.PCons, Text: p.head.text}
	for _, part := range p.parts {
		t = part.write(t)
		root.Kids = append(root.Kids, len(t)-1)
	}
	return append(t, root)
}

// formError returns the error of a pattern for which no type is given.
func formError(t api.Tree) api.Errno {
	_, e := patternError(t)
	return common.First(e, variablesError(t))
}

// patternError returns the node and the error of a tree that is no pattern.
func patternError(t api.Tree) (int, api.Errno) {
	if node, e := tree.Check(t); e != api.OK {
		return node, e
	}
	if class, _ := tree.Class(t[len(t)-1].Op); class != tree.Pattern {
		return len(t) - 1, api.ErrKind
	}
	return 0, api.OK
}

// variablesError returns the error of a variable that a pattern has twice.
func variablesError(t api.Tree) api.Errno {
	seen := map[string]bool{}
	for p := range walk.Nodes(t) {
		if p.Op != api.PVar {
			continue
		}
		if seen[p.Text] {
			return api.ErrTwice
		}
		seen[p.Text] = true
	}
	return api.OK
}

// reader reads a pattern for a type: its variables, or the first node with an error.
type reader struct {
	*world
	tree      api.Tree
	rules     []rule
	variables []api.Bound
	seen      map[string]bool
	node      int
	errno     api.Errno
}

// rule says how the patterns of an Op are read.
type rule struct {
	op   int
	read func(*reader, walk.Place, *kind) (*pattern, api.Errno)
}

// rules returns the rules of all patterns.
func rules() []rule {
	return []rule{
		{api.PVar, (*reader).variable},
		{api.PWild, func(*reader, walk.Place, *kind) (*pattern, api.Errno) { return wild(), api.OK }},
		{api.PCons, (*reader).application},
		{api.PLit, (*reader).literal},
	}
}

// read reads a tree as a pattern for a type. The pattern is right if the reader has no error.
func (w *world) read(t api.Tree, k *kind) (*reader, *pattern) {
	r := &reader{world: w, tree: t, rules: rules(), seen: map[string]bool{}}
	if r.node, r.errno = patternError(t); r.errno != api.OK {
		return r, nil
	}
	return r, r.pattern(len(t)-1, k)
}

// readList reads a list of patterns for a type, each one as a row of its own.
func readList(p api.Tree, typ string, l []api.Tree) (*world, *kind, []row, api.Errno) {
	w, k, e := newWorld(p, typ)
	if e != api.OK {
		return nil, nil, nil, e
	}
	if len(l) > maxList {
		return nil, nil, nil, api.ErrMany
	}
	var rows []row
	for _, t := range l {
		r, p := w.read(t, k)
		if r.errno != api.OK {
			return nil, nil, nil, r.errno
		}
		rows = append(rows, newRow(p))
	}
	return w, k, rows, api.OK
}

// pattern reads the pattern at a node. The parts of a pattern are read before its own error is noted, so that the first error that is noted is that of the least node.
func (r *reader) pattern(node int, k *kind) *pattern {
	place := walk.At(r.tree, node)
	for _, rule := range r.rules {
		if rule.op != place.Op {
			continue
		}
		p, e := rule.read(r, place, k)
		if e != api.OK && r.errno == api.OK {
			r.node, r.errno = node, e
		}
		return p
	}
	return wild()
}

func (r *reader) variable(p walk.Place, k *kind) (*pattern, api.Errno) {
	if r.seen[p.Text] {
		return wild(), api.ErrTwice
	}
	r.seen[p.Text] = true
	r.variables = append(r.variables, api.Bound{Name: p.Text, Sort: k.typ})
	return wild(), api.OK
}

// application reads a constructor with its parts, as far as it has them.
func (r *reader) application(p walk.Place, k *kind) (*pattern, api.Errno) {
	if _, found := k.constructor(p.Text); !found {
		return wild(), api.ErrUnknown
	}
	out := &pattern{head: head{ofConstructor, p.Text}}
	fields := r.parts(k, out.head)
	for i := range min(len(fields), len(p.Kids)) {
		out.parts = append(out.parts, r.pattern(p.Kids[i], fields[i]))
	}
	if len(fields) != len(p.Kids) {
		return out, api.ErrArgs
	}
	return out, api.OK
}

func (r *reader) literal(p walk.Place, k *kind) (*pattern, api.Errno) {
	l := literalAt(r.tree, p)
	head := k.number
	if l.isBool {
		head = k.boolean
	}
	h, e := head(l.text)
	return &pattern{head: h}, e
}

// literal is a number or a bool.
type literal struct {
	isBool bool
	text   string
}

// literalAt returns the literal of a PLit.
func literalAt(t api.Tree, p walk.Place) literal {
	n := t[p.Kids[0]]
	if n.Op == api.ENeg {
		negative, _ := num.Neg(t[n.Kids[0]].Text)
		return literal{false, negative}
	}
	return literal{n.Op == api.EBool, n.Text}
}

// writeLiteral appends the nodes of the literal with a text. (The numbers of missing patterns are natural: a negative one is asked for only if all others are covered, and then it is, too.)
func writeLiteral(t api.Tree, text string) api.Tree {
	if text == "false" || text == "true" {
		return append(t, api.Node{Op: api.EBool, Text: text})
	}
	number, _, _ := strings.Cut(text, bitsHead)
	return append(t, api.Node{Op: api.EInt, Text: number})
}
