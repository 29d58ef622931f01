package infer

import (
	"cmp"
	"slices"

	"entail/api"
	"entail/common"
	"entail/tree"
	"entail/types"
	"entail/walk"
)

// fault is an error with its node.
type fault struct {
	node  int
	errno api.Errno
}

// isNone reports whether there is no error.
func (f fault) isNone() bool {
	return f == fault{}
}

// at returns an error with its node.
func at(node int, e api.Errno) fault {
	if e == api.OK {
		return fault{}
	}
	return fault{node, e}
}

// ascending returns a list in the order of its nodes.
func ascending[A any](list []A, node func(A) int) []A {
	slices.SortFunc(list, func(a, b A) int { return cmp.Compare(node(a), node(b)) })
	return list
}

// world is a flat program with what it declares.
type world struct {
	program  api.Tree
	skeleton api.Tree // the types that it declares, without all that package types need not read again and again
	texts    *texts   // of the types in it
	globals  map[string]walk.Place
	owners   map[string]walk.Place // the datatypes of the constructors
	declared map[string]declared
}

// declared is a declared type as it stands, and its base.
type declared struct {
	typ, base *typ
	errno     api.Errno
}

// differs reports whether the type has subset types in it.
func (d declared) differs() bool {
	return d.typ.text() != d.base.text()
}

// readWorld returns a program with different names, or its error.
func readWorld(p api.Tree) (*world, api.Errno) {
	if _, e := types.Decl(p, ""); e != api.ErrUnknown { // no declaration has this name
		return nil, e
	}
	w := &world{p, skeletonOf(p), newTexts(p), map[string]walk.Place{}, map[string]walk.Place{}, map[string]declared{}}
	for d := range walk.Nodes(p) {
		if !isGlobal(d.Op) {
			continue
		}
		if _, found := w.globals[d.Text]; found {
			return nil, api.ErrTwice
		}
		w.globals[d.Text] = d
		for _, c := range walk.Kids(p, d.Node, api.DCons) {
			w.owners[p[c].Text] = d
		}
	}
	for d := range walk.Nodes(p) {
		if w.isTwice(d) {
			return nil, api.ErrTwice
		}
	}
	return w, api.OK
}

// isGlobal reports whether an Op is that of a declaration or a constructor.
func isGlobal(op int) bool {
	class, _ := tree.Class(op)
	return class == tree.Declaration || op == api.DCons
}

// isTwice reports whether a node declares a name that has to differ from another one.
func (w *world) isTwice(d walk.Place) bool {
	switch d.Op {
	case api.DTypeParam:
		_, found := w.globals[d.Text]
		return found
	case api.DParam, api.DGhostParam, api.DOut, api.SVar, api.SGhostVar, api.QVar, api.PVar, api.ELet:
		op := w.globals[d.Text].Op
		return op == api.DFunction || op == api.DConst
	case api.DClass, api.DCons:
		names := common.Transform(d.Kids, func(kid int) string { return w.program[kid].Text })
		return len(names) != len(asSet(names))
	case api.DDatatype:
		return w.differ(d)
	}
	return false
}

func asSet(names []string) map[string]bool {
	out := map[string]bool{}
	for _, name := range names {
		out[name] = true
	}
	return out
}

// differ reports whether fields of one name of a datatype have different types.
func (w *world) differ(datatype walk.Place) bool {
	seen := map[string]string{}
	for _, c := range walk.Kids(w.program, datatype.Node, api.DCons) {
		for _, field := range w.program[c].Kids {
			name, text := w.program[field].Text, w.texts.of(w.program[field].Kids[0])
			if before, found := seen[name]; found && before != text {
				return true
			}
			seen[name] = text
		}
	}
	return false
}

// texts is the strings of the types in a tree, as far as they are known.
type texts struct {
	tree  api.Tree
	known map[int]string
}

func newTexts(t api.Tree) *texts {
	return &texts{t, map[int]string{}}
}

// of returns the string of the type at a node.
func (x *texts) of(node int) string {
	text, found := x.known[node]
	if !found {
		sub := walk.Sub(x.tree, node)
		text, _ = types.Of(sub, len(sub)-1)
		x.known[node] = text
	}
	return text
}

// skeletonOf returns the flat program that has the types of another one, with their type parameters and the types under subset types.
func skeletonOf(p api.Tree) api.Tree {
	var out api.Tree
	module := api.Node{Op: api.MModule}
	add := func(n api.Node, parts ...api.Tree) {
		n.Kids = nil
		for _, part := range parts {
			out = append(out, walk.Moved(part, len(out))...)
			n.Kids = append(n.Kids, len(out)-1)
		}
		out = append(out, n)
		module.Kids = append(module.Kids, len(out)-1)
	}
	always := api.Tree{{Op: api.EBool, Text: "true"}}
	for d := range walk.Nodes(p) {
		switch d.Op {
		case api.DDatatype:
			parts := common.Transform(walk.Kids(p, d.Node, api.DTypeParam), func(kid int) api.Tree { return walk.Sub(p, kid) })
			constructor := p[d.Kids[len(d.Kids)-1]].Text
			add(d.Node, append(parts, api.Tree{{Op: api.DCons, Text: constructor}})...)
		case api.DSubset:
			add(d.Node, walk.Sub(p, d.Kids[0]), always, always)
		case api.DClass:
			add(d.Node)
		}
	}
	return append(out, module, api.Node{Op: api.MProgram, Kids: []int{len(out)}})
}

// read returns the declared type of a type string.
func (w *world) read(text string) declared {
	if d, found := w.declared[text]; found {
		return d
	}
	base, e := types.Base(w.skeleton, text)
	d := declared{errno: e}
	if e == api.OK {
		d = declared{typ: readType(text), base: readType(base)}
	}
	w.declared[text] = d
	return d
}

// readAt returns the declared type at a node of the program.
func (w *world) readAt(node int) declared {
	return w.read(w.texts.of(node))
}

// params returns the names of the type parameters of a declaration.
func (w *world) params(d walk.Place) []string {
	return common.Transform(walk.Kids(w.program, d.Node, api.DTypeParam), func(kid int) string { return w.program[kid].Text })
}

// member returns the type node of a member of a type that is known, and the type arguments in place of the type parameters.
func (w *world) member(object *typ, name string) (int, map[string]*typ, api.Errno) {
	object = object.now()
	d := w.globals[object.head]
	if d.Op != api.DClass && d.Op != api.DDatatype {
		return 0, nil, api.ErrType
	}
	params := w.params(d)
	if len(params) != len(object.args) {
		return 0, nil, api.ErrArgs
	}
	by := map[string]*typ{}
	for i, param := range params {
		by[param] = object.args[i]
	}
	node, e := 0, api.ErrUnknown
search:
	for _, owner := range append([]int{d.Index}, walk.Kids(w.program, d.Node, api.DCons)...) {
		for _, field := range walk.Kids(w.program, w.program[owner], api.DField, api.DGhostField) {
			if w.program[field].Text == name {
				node, e = w.program[field].Kids[0], api.OK
				break search
			}
		}
	}
	return node, by, e
}
