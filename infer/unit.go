package infer

import (
	"slices"

	"entail/api"
	"entail/common"
	"entail/walk"
)

// unit is expressions whose types are found together.
type unit struct {
	*typer
	nodes     []int
	instances []instance
	flows     []flow
}

// instance is the type arguments of a node, which need not be known yet.
type instance struct {
	node int
	args []*typ
}

// flow is an expression with the declared type that it is assigned to, which need not be known yet.
type flow struct {
	node int
	typ  *typ
}

// unit finds the types of some expressions, which have to meet some demands.
func (t *typer) unit(roots []int, demands ...func(*unit) fault) fault {
	u := &unit{typer: t}
	for _, root := range roots {
		if f := u.through(root); !f.isNone() {
			return f
		}
	}
	for _, demand := range demands {
		if f := demand(u); !f.isNone() {
			return f
		}
	}
	slices.Sort(u.nodes)
	for _, step := range []func() fault{u.heads, u.lengths, u.closed, u.arguments, u.flowing} {
		if f := step(); !f.isNone() {
			return f
		}
	}
	u.finish()
	return fault{}
}

// through goes through the nodes of an expression or a pattern.
func (u *unit) through(root int) fault {
	for node := walk.Start(u.tree, root); node <= root; node++ {
		p := walk.At(u.tree, node)
		if f := u.node(p); !f.isNone() {
			return f
		}
	}
	return fault{}
}

// node finds the type of an expression; of patterns only the outermost ones are treated, each with all that is in it.
func (u *unit) node(p walk.Place) fault {
	apply := u.rules[p.Op].apply
	if apply == nil {
		parent := u.parents[p.Index]
		if isPattern(p.Op) && !isPattern(u.tree[parent].Op) {
			return u.pattern(p, u.types[u.tree[u.parents[parent]].Kids[0]])
		}
		return fault{}
	}
	if slices.ContainsFunc(u.below(p), func(kid int) bool { return u.types[kid].isLong() }) {
		return at(p.Index, api.ErrLong)
	}
	typ, e := apply(u, p)
	if e != api.OK {
		return at(p.Index, e)
	}
	u.note(p.Index, typ)
	return fault{}
}

// note notes the type of a node.
func (u *unit) note(node int, typ *typ) {
	u.types[node] = typ
	u.nodes = append(u.nodes, node)
}

// below returns the expressions that are children of a node, or of its triggers and cases.
func (u *unit) below(p walk.Place) []int {
	var out []int
	for _, kid := range p.Kids {
		switch n := u.tree[kid]; {
		case n.Op == api.QTrigger:
			out = append(out, n.Kids...)
		case n.Op == api.ECase:
			out = append(out, n.Kids[1])
		case u.rules[n.Op].apply != nil:
			out = append(out, kid)
		}
	}
	return out
}

// unify makes two types equal.
func (u *unit) unify(a, b *typ) api.Errno {
	switch {
	case a.isLong() || b.isLong():
		return api.ErrLong
	case !(pairs{}).unify(a, b):
		return api.ErrType
	}
	return api.OK
}

// unifyAll makes the types of some expressions equal to another one.
func (u *unit) unifyAll(to *typ, nodes ...int) api.Errno {
	for _, node := range nodes {
		if e := u.unify(u.types[node], to); e != api.OK {
			return e
		}
	}
	return api.OK
}

// known returns the type of an expression whose head is known.
func (u *unit) known(node int) (*typ, api.Errno) {
	typ := u.types[node].now()
	if typ.isOpen() {
		return nil, api.ErrOpen
	}
	return typ, api.OK
}

// fresh returns new variables.
func (u *unit) fresh(count int) []*typ {
	var out []*typ
	for range count {
		out = append(out, &typ{})
	}
	return out
}

// instance notes the type arguments at a node of a declaration that has type parameters, and returns them, and what stands in place of the parameters.
func (u *unit) instance(node int, d walk.Place) ([]*typ, map[string]*typ) {
	params := u.params(d)
	args := u.fresh(len(params))
	by := map[string]*typ{}
	for i, param := range params {
		by[param] = args[i]
	}
	if len(args) > 0 {
		u.instances = append(u.instances, instance{node, args})
	}
	return args, by
}

// assign makes the type of an expression equal to a declared one, with type arguments in place of type parameters, and notes the flow.
func (u *unit) assign(node int, d declared, by map[string]*typ) api.Errno {
	if d.errno != api.OK {
		return d.errno
	}
	if d.differs() {
		u.flows = append(u.flows, flow{node, d.typ.put(by)})
	}
	return u.unify(d.base.put(by), u.types[node])
}

// heads returns the error of the first operation with an operand of a type that is not permitted.
func (u *unit) heads() fault {
	for _, node := range u.nodes {
		r := u.rules[u.tree[node].Op]
		if len(r.heads) == 0 {
			continue
		}
		asked := []int{u.tree[node].Kids[0]}
		if u.tree[node].Op == api.EAs {
			asked = append(asked, node)
		}
		e := common.First(common.Transform(asked, func(node int) api.Errno { return u.head(node, r.heads) })...)
		if e != api.OK {
			return at(node, e)
		}
	}
	return fault{}
}

// head returns the error of the type of a node if it has none of some heads.
func (u *unit) head(node int, heads []string) api.Errno {
	typ, e := u.known(node)
	if e == api.OK && !slices.Contains(heads, typ.kind()) {
		return api.ErrType
	}
	return e
}

// lengths returns the error of the first node whose type is too long.
func (u *unit) lengths() fault {
	for _, node := range u.nodes {
		if u.types[node].isLong() {
			return at(node, api.ErrLong)
		}
	}
	return fault{}
}

// closed returns the error of the first node whose type has a variable that is not known.
func (u *unit) closed() fault {
	for _, node := range u.nodes {
		if !u.types[node].isClosed() {
			return at(node, api.ErrOpen)
		}
	}
	return fault{}
}

// arguments returns the error of the first type argument.
func (u *unit) arguments() fault {
	for _, i := range ascending(u.instances, func(i instance) int { return i.node }) {
		for _, arg := range i.args {
			switch {
			case arg.isLong():
				return at(i.node, api.ErrLong)
			case !arg.isClosed():
				return at(i.node, api.ErrOpen)
			}
		}
	}
	return fault{}
}

// flowing returns the error of the first flow.
func (u *unit) flowing() fault {
	for _, f := range ascending(u.flows, func(f flow) int { return f.node }) {
		if f.typ.isLong() {
			return at(f.node, api.ErrLong)
		}
	}
	return fault{}
}

// finish notes the strings of all types.
func (u *unit) finish() {
	for _, node := range u.nodes {
		u.found[node] = u.types[node].text()
	}
	for _, i := range u.instances {
		u.typer.instances = append(u.typer.instances, Instance{i.node, common.Transform(i.args, (*typ).text)})
	}
	for _, f := range u.flows {
		u.typer.flows = append(u.typer.flows, Flow{f.node, f.typ.text()})
	}
}
