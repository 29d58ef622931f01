package infer

import (
	"entail/api"
	"entail/walk"
)

// rule says how the type of an expression is found, when its children have theirs, and which heads the type of its first child may have in the end (all, if there are none).
type rule struct {
	apply func(*unit, walk.Place) (*typ, api.Errno)
	heads []string
}

// ruling is the rule of some Ops that follow each other.
type ruling struct {
	from, to int
	rule     rule
}

// rules returns the rule of each Op of an expression.
func rules() [api.Ops]rule {
	var out [api.Ops]rule
	for _, list := range [][]ruling{operationRules(), otherRules()} {
		for _, r := range list {
			for op := r.from; op <= r.to; op++ {
				out[op] = r.rule
			}
		}
	}
	return out
}

// constant returns the rule of a literal.
func constant(head string) rule {
	return rule{func(*unit, walk.Place) (*typ, api.Errno) { return named(head), api.OK }, nil}
}

// operationRules returns the rules of literals and operations.
func operationRules() []ruling {
	numbers := []string{"int", "real", "bv"}
	return []ruling{
		{api.EInt, api.EInt, constant("int")},
		{api.EReal, api.EReal, constant("real")},
		{api.EBool, api.EBool, constant("bool")},
		{api.EVar, api.EVar, rule{(*unit).variable, nil}},
		{api.ENot, api.ENot, rule{(*unit).logic, nil}},
		{api.ENeg, api.ENeg, rule{(*unit).first, numbers}},
		{api.EAdd, api.EAdd, rule{(*unit).same, []string{"int", "real", "bv", "set", "multiset", "seq", "map"}}},
		{api.ESub, api.EMul, rule{(*unit).same, []string{"int", "real", "bv", "set", "multiset"}}},
		{api.EDiv, api.EDiv, rule{(*unit).same, numbers}},
		{api.EMod, api.EMod, rule{(*unit).same, []string{"int", "bv"}}},
		{api.EAnd, api.EIff, rule{(*unit).logic, nil}},
		{api.EEq, api.ENe, rule{(*unit).comparison, nil}},
		{api.ELt, api.ELe, rule{(*unit).comparison, []string{"int", "real", "bv", "seq", "set", "multiset"}}},
		{api.EIn, api.EIn, rule{(*unit).membership, nil}},
		{api.EBitAnd, api.EBitXor, rule{(*unit).same, []string{"bv"}}},
		{api.EShl, api.EShr, rule{(*unit).shift, []string{"bv"}}},
		{api.EAs, api.EAs, rule{(*unit).conversion, numbers}},
	}
}

// otherRules returns the rules of all other expressions.
func otherRules() []ruling {
	return []ruling{
		{api.EIf, api.EIf, rule{(*unit).choice, nil}},
		{api.ELet, api.ELet, rule{(*unit).last, nil}},
		{api.ECall, api.ECall, rule{(*unit).call, nil}},
		{api.ECons, api.ECons, rule{(*unit).construction, nil}},
		{api.EField, api.EField, rule{(*unit).field, nil}},
		{api.EIs, api.EIs, rule{(*unit).test, nil}},
		{api.EIndex, api.EIndex, rule{(*unit).index, nil}},
		{api.ESlice, api.ESlice, rule{(*unit).slice, nil}},
		{api.EUpdate, api.EUpdate, rule{(*unit).update, nil}},
		{api.ECard, api.ECard, rule{(*unit).cardinality, nil}},
		{api.ESeq, api.ESeq, display("seq")},
		{api.ESet, api.ESet, display("set")},
		{api.EMulti, api.EMulti, display("multiset")},
		{api.EMap, api.EMap, rule{(*unit).mapDisplay, nil}},
		{api.EForall, api.EExists, rule{(*unit).quantifier, nil}},
		{api.ESetOf, api.ESetOf, rule{(*unit).comprehension, nil}},
		{api.EMatch, api.EMatch, rule{(*unit).match, nil}},
		{api.EOld, api.EOld, rule{(*unit).first, nil}},
		{api.EFresh, api.EFresh, rule{(*unit).freshness, nil}},
	}
}

// variable returns the type of a variable or a constant.
func (u *unit) variable(p walk.Place) (*typ, api.Errno) {
	if b := u.scopes[p.Index].Find(p.Text); b != nil {
		return u.local(b), api.OK
	}
	if typ, found := u.given[p.Text]; found {
		return typ, api.OK
	}
	constant := u.globals[p.Text]
	if constant.Op != api.DConst {
		return nil, api.ErrUnknown
	}
	d := u.readAt(constant.Kids[0])
	return d.base, d.errno
}

// logic makes all children bool.
func (u *unit) logic(p walk.Place) (*typ, api.Errno) {
	return named("bool"), u.unifyAll(named("bool"), p.Kids...)
}

// first and last return the type of a child.
func (u *unit) first(p walk.Place) (*typ, api.Errno) {
	return u.types[p.Kids[0]], api.OK
}

func (u *unit) last(p walk.Place) (*typ, api.Errno) {
	return u.types[p.Kids[len(p.Kids)-1]], api.OK
}

// same makes both operands equal, and returns their type.
func (u *unit) same(p walk.Place) (*typ, api.Errno) {
	left := u.types[p.Kids[0]]
	return left, u.unify(left, u.types[p.Kids[1]])
}

func (u *unit) comparison(p walk.Place) (*typ, api.Errno) {
	_, e := u.same(p)
	return named("bool"), e
}

func (u *unit) shift(p walk.Place) (*typ, api.Errno) {
	return u.types[p.Kids[0]], u.unifyAll(named("int"), p.Kids[1])
}

func (u *unit) conversion(p walk.Place) (*typ, api.Errno) {
	d := u.readHere(p.Kids[1])
	return d.base, d.errno
}

func (u *unit) membership(p walk.Place) (*typ, api.Errno) {
	collection, e := u.known(p.Kids[1])
	if e != api.OK {
		return nil, e
	}
	switch collection.head {
	case "seq", "set", "multiset", "map":
		return named("bool"), u.unifyAll(collection.args[0], p.Kids[0])
	}
	return nil, api.ErrType
}

func (u *unit) choice(p walk.Place) (*typ, api.Errno) {
	if e := u.unifyAll(named("bool"), p.Kids[0]); e != api.OK {
		return nil, e
	}
	then := u.types[p.Kids[1]]
	return then, u.unifyAll(then, p.Kids[2])
}

// call returns the type of a call of a function.
func (u *unit) call(p walk.Place) (*typ, api.Errno) {
	function := u.globals[p.Text]
	params := walk.Kids(u.program, function.Node, api.DParam, api.DGhostParam)
	switch {
	case function.Op != api.DFunction:
		return nil, api.ErrUnknown
	case len(params) != len(p.Kids):
		return nil, api.ErrArgs
	}
	_, by := u.instance(p.Index, function)
	for i, kid := range p.Kids {
		if e := u.assign(kid, u.readAt(u.program[params[i]].Kids[0]), by); e != api.OK {
			return nil, e
		}
	}
	result := u.readAt(u.program[walk.Kids(u.program, function.Node, api.DResult)[0]].Kids[0])
	if result.errno != api.OK {
		return nil, result.errno
	}
	return result.base.put(by), api.OK
}

// construction returns the type of a constructor with arguments.
func (u *unit) construction(p walk.Place) (*typ, api.Errno) {
	constructor := u.globals[p.Text]
	switch {
	case constructor.Op != api.DCons:
		return nil, api.ErrUnknown
	case len(constructor.Kids) != len(p.Kids):
		return nil, api.ErrArgs
	}
	datatype := u.owners[p.Text]
	args, by := u.instance(p.Index, datatype)
	for i, kid := range p.Kids {
		if e := u.assign(kid, u.readAt(u.program[constructor.Kids[i]].Kids[0]), by); e != api.OK {
			return nil, e
		}
	}
	return named(datatype.Text, args...), api.OK
}

// field returns the type of a member.
func (u *unit) field(p walk.Place) (*typ, api.Errno) {
	object, e := u.known(p.Kids[0])
	if e != api.OK {
		return nil, e
	}
	node, by, e := u.member(object, p.Text)
	if e != api.OK {
		return nil, e
	}
	d := u.readAt(node)
	if d.errno != api.OK {
		return nil, d.errno
	}
	return d.base.put(by), api.OK
}

// test returns the type of a test for a constructor.
func (u *unit) test(p walk.Place) (*typ, api.Errno) {
	if u.globals[p.Text].Op != api.DCons {
		return nil, api.ErrUnknown
	}
	datatype := u.owners[p.Text]
	args, _ := u.instance(p.Index, datatype)
	return named("bool"), u.unifyAll(named(datatype.Text, args...), p.Kids...)
}

// element returns the types of the index and of what it finds in a collection or an array.
func (u *unit) element(node int) (index, found *typ, e api.Errno) {
	object, e := u.known(node)
	if e != api.OK {
		return nil, nil, e
	}
	switch object.head {
	case "seq", "array":
		return named("int"), object.args[0], api.OK
	case "map":
		return object.args[0], object.args[1], api.OK
	case "multiset":
		return object.args[0], named("int"), api.OK
	}
	return nil, nil, api.ErrType
}

func (u *unit) index(p walk.Place) (*typ, api.Errno) {
	index, found, e := u.element(p.Kids[0])
	if e != api.OK {
		return nil, e
	}
	return found, u.unifyAll(index, p.Kids[1])
}

func (u *unit) update(p walk.Place) (*typ, api.Errno) {
	index, found, e := u.element(p.Kids[0])
	if e != api.OK {
		return nil, e
	}
	object := u.types[p.Kids[0]]
	if object.now().head == "array" {
		return nil, api.ErrType
	}
	if e := u.unifyAll(index, p.Kids[1]); e != api.OK {
		return nil, e
	}
	return object, u.unifyAll(found, p.Kids[2])
}

func (u *unit) slice(p walk.Place) (*typ, api.Errno) {
	object, e := u.known(p.Kids[0])
	switch {
	case e != api.OK:
		return nil, e
	case object.head != "seq":
		return nil, api.ErrType
	}
	return object, u.unifyAll(named("int"), p.Kids[1:]...)
}

func (u *unit) cardinality(p walk.Place) (*typ, api.Errno) {
	return named("int"), u.head(p.Kids[0], []string{"seq", "set", "multiset", "map", "array"})
}

// display returns the rule of a display of elements.
func display(head string) rule {
	return rule{func(u *unit, p walk.Place) (*typ, api.Errno) {
		element, e := u.one(p.Kids)
		return named(head, element), e
	}, nil}
}

// one makes the types of some expressions equal, and returns it; it is a new variable if there are none.
func (u *unit) one(nodes []int) (*typ, api.Errno) {
	if len(nodes) == 0 {
		return u.fresh(1)[0], api.OK
	}
	typ := u.types[nodes[0]]
	return typ, u.unifyAll(typ, nodes[1:]...)
}

func (u *unit) mapDisplay(p walk.Place) (*typ, api.Errno) {
	of := u.fresh(2)
	for i, kid := range p.Kids {
		if i < 2 {
			of[i] = u.types[kid]
		} else if e := u.unifyAll(of[i%2], kid); e != api.OK {
			return nil, e
		}
	}
	return named("map", of...), api.OK
}

func (u *unit) quantifier(p walk.Place) (*typ, api.Errno) {
	return named("bool"), u.unifyAll(named("bool"), p.Kids[len(p.Kids)-1])
}

func (u *unit) comprehension(p walk.Place) (*typ, api.Errno) {
	return named("set", u.types[p.Kids[2]]), u.unifyAll(named("bool"), p.Kids[1])
}

func (u *unit) match(p walk.Place) (*typ, api.Errno) {
	return u.one(u.below(p)[1:])
}

func (u *unit) freshness(p walk.Place) (*typ, api.Errno) {
	object, e := u.known(p.Kids[0])
	if e == api.OK && !u.isObject(object) {
		e = api.ErrType
	}
	return named("bool"), e
}

// isObject reports whether a type that is known is a class or an array.
func (u *unit) isObject(typ *typ) bool {
	head := typ.now().head
	return head == "array" || u.globals[head].Op == api.DClass
}

func isPattern(op int) bool {
	return op >= api.PVar && op <= api.PLit
}

// pattern finds the types in a pattern, from the outside to the inside.
func (u *unit) pattern(p walk.Place, matched *typ) fault {
	u.note(p.Index, matched)
	switch p.Op {
	case api.PLit:
		return at(p.Index, u.unifyAll(u.types[p.Kids[0]], p.Index))
	case api.PCons:
		return u.constructor(p)
	}
	return fault{}
}

// constructor finds the types in a pattern of a constructor.
func (u *unit) constructor(p walk.Place) fault {
	constructor := u.globals[p.Text]
	switch {
	case constructor.Op != api.DCons:
		return fault{p.Index, api.ErrUnknown}
	case len(constructor.Kids) != len(p.Kids):
		return fault{p.Index, api.ErrArgs}
	}
	datatype := u.owners[p.Text]
	args, by := u.instance(p.Index, datatype)
	if e := u.unifyAll(named(datatype.Text, args...), p.Index); e != api.OK {
		return fault{p.Index, e}
	}
	for i, kid := range p.Kids {
		d := u.readAt(u.program[constructor.Kids[i]].Kids[0])
		if d.errno != api.OK {
			return fault{p.Index, d.errno}
		}
		if f := u.pattern(walk.At(u.tree, kid), d.base.put(by)); !f.isNone() {
			return f
		}
	}
	return fault{}
}
