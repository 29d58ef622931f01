package infer

import (
	"slices"

	"entail/api"
	"entail/walk"
)

// part finds the types in a declaration, a clause or a statement.
type part func(*typer, walk.Place) fault

// parts returns what is done for each Op; for most Ops nothing.
func parts() [api.Ops]part {
	condition, inner := (*typer).condition, (*typer).inner
	return [api.Ops]part{
		api.CRequires: condition, api.CEnsures: condition, api.CInvariant: condition,
		api.CDecreases: (*typer).expressions, api.CReads: (*typer).objects, api.CModifies: (*typer).objects,
		api.DConst: (*typer).valued, api.DSubset: (*typer).subset, api.DFunction: (*typer).function, api.DMethod: inner,
		api.SBlock: inner, api.SVar: (*typer).valued, api.SGhostVar: (*typer).valued,
		api.SAssign: (*typer).assignment, api.SHavoc: (*typer).expressions, api.SChoose: (*typer).chosen,
		api.SCall: (*typer).call, api.SNew: (*typer).object, api.SNewArray: (*typer).array,
		api.SIf: condition, api.SAlt: inner, api.SGuard: condition, api.SWhile: condition,
		api.SMatch: (*typer).match, api.SCase: (*typer).matched,
		api.SAssert: condition, api.SAssume: condition, api.SPrint: (*typer).expressions,
		api.SCalc: (*typer).calculation, api.SForall: (*typer).quantified,
	}
}

// part finds the types in the part of a program at a node.
func (t *typer) part(node int) fault {
	p := walk.At(t.tree, node)
	if find := t.parts[p.Op]; find != nil {
		return find(t, p)
	}
	return fault{}
}

// all finds the types in some parts of a program.
func (t *typer) all(nodes []int) fault {
	for _, node := range nodes {
		if f := t.part(node); !f.isNone() {
			return f
		}
	}
	return fault{}
}

// inner finds the types in the children.
func (t *typer) inner(p walk.Place) fault {
	return t.all(p.Kids)
}

// expressions treats children that may have any type.
func (t *typer) expressions(p walk.Place) fault {
	return t.unit(p.Kids)
}

// condition treats a first child that is a condition, and then the other ones.
func (t *typer) condition(p walk.Place) fault {
	if f := t.unit(p.Kids[:1], has(p.Kids[0], named("bool"))); !f.isNone() {
		return f
	}
	return t.all(p.Kids[1:])
}

// has returns the demand that an expression has a type.
func has(node int, typ *typ) func(*unit) fault {
	return func(u *unit) fault { return at(node, u.unifyAll(typ, node)) }
}

// gets returns the demand that an expression can be assigned to a declared type.
func gets(node int, d declared) func(*unit) fault {
	return func(u *unit) fault { return at(node, u.assign(node, d, nil)) }
}

// objects treats a clause of objects.
func (t *typer) objects(p walk.Place) fault {
	return t.unit(p.Kids, func(u *unit) fault {
		typ, e := u.known(p.Kids[0])
		if e == api.OK && typ.head == "set" {
			typ = typ.args[0].now()
			if typ.isOpen() {
				e = api.ErrOpen
			}
		}
		if e == api.OK && !u.isObject(typ) {
			e = api.ErrType
		}
		return at(p.Kids[0], e)
	})
}

// valued treats a declaration of a variable or a constant with a type and perhaps a value.
func (t *typer) valued(p walk.Place) fault {
	if len(p.Kids) == 1 {
		return fault{}
	}
	return t.unit(p.Kids[1:], gets(p.Kids[1], t.readHere(p.Kids[0])))
}

// subset treats the condition and the witness of a subset type.
func (t *typer) subset(p walk.Place) fault {
	if f := t.unit(p.Kids[1:2], has(p.Kids[1], named("bool"))); !f.isNone() {
		return f
	}
	return t.unit(p.Kids[2:], gets(p.Kids[2], t.read(p.Text)))
}

// function treats the clauses and the body of a function.
func (t *typer) function(p walk.Place) fault {
	if f := t.inner(p); !f.isNone() {
		return f
	}
	body := len(p.Kids) - 1
	if t.rules[t.tree[p.Kids[body]].Op].apply == nil {
		return fault{}
	}
	result := walk.Kids(t.tree, p.Node, api.DResult)[0]
	return t.unit(p.Kids[body:], gets(p.Kids[body], t.readHere(t.tree[result].Kids[0])))
}

// assignment treats a target and its value.
func (t *typer) assignment(p walk.Place) fault {
	target, value := p.Kids[0], p.Kids[1]
	return t.unit(p.Kids, func(u *unit) fault {
		if d, by, found := u.target(walk.At(t.tree, target)); found {
			return at(value, u.assign(value, d, by))
		}
		return at(value, u.unifyAll(u.types[target], value))
	})
}

// target returns the declared type of a target, with what stands in place of type parameters, and whether it has one.
func (u *unit) target(p walk.Place) (declared, map[string]*typ, bool) {
	switch p.Op {
	case api.EVar:
		d, found := u.declaredAt(u.scopes[p.Index].Find(p.Text))
		return d, nil, found
	case api.EField:
		if node, by, e := u.member(u.types[p.Kids[0]], p.Text); e == api.OK {
			return u.readAt(node), by, true
		}
	}
	return declared{}, nil, false
}

// localAt returns the type of the local variable that a statement names.
func (u *unit) localAt(p walk.Place) (*typ, api.Errno) {
	if b := u.scopes[p.Index].Find(p.Text); b != nil {
		return u.local(b), api.OK
	}
	return nil, api.ErrUnknown
}

// knows returns the demand that a statement names a local variable.
func knows(p walk.Place) func(*unit) fault {
	return func(u *unit) fault {
		_, e := u.localAt(p)
		return at(p.Index, e)
	}
}

// chosen treats the condition of a choice.
func (t *typer) chosen(p walk.Place) fault {
	return t.unit(p.Kids, knows(p), has(p.Kids[0], named("bool")))
}

// call treats a call of a method.
func (t *typer) call(p walk.Place) fault {
	targets, args := t.tree[p.Kids[0]].Kids, p.Kids[1:]
	method := t.globals[p.Text]
	params := walk.Kids(t.program, method.Node, api.DParam, api.DGhostParam)
	outs := walk.Kids(t.program, method.Node, api.DOut)
	return t.unit(slices.Concat(targets, args), func(u *unit) fault {
		switch {
		case method.Op != api.DMethod:
			return fault{p.Index, api.ErrUnknown}
		case len(args) != len(params) || len(targets) != len(outs):
			return fault{p.Index, api.ErrArgs}
		}
		_, by := u.instance(p.Index, method)
		for i, arg := range args {
			if e := u.assign(arg, u.readAt(t.program[params[i]].Kids[0]), by); e != api.OK {
				return fault{arg, e}
			}
		}
		for i, target := range targets {
			if e := u.result(target, u.readAt(t.program[outs[i]].Kids[0]), by); e != api.OK {
				return fault{target, e}
			}
		}
		return fault{}
	})
}

// result makes the type of a target equal to that of an out-parameter, and notes the flow.
func (u *unit) result(target int, out declared, by map[string]*typ) api.Errno {
	if out.errno != api.OK {
		return out.errno
	}
	if d, _, found := u.target(walk.At(u.tree, target)); found && d.differs() {
		u.flows = append(u.flows, flow{target, d.typ})
	}
	return u.unifyAll(out.base.put(by), target)
}

// object treats the values of a new object.
func (t *typer) object(p walk.Place) fault {
	values := p.Kids[1:]
	return t.unit(values, func(u *unit) fault {
		variable, e := u.localAt(p)
		if e != api.OK {
			return fault{p.Index, e}
		}
		typ := u.readHere(p.Kids[0]).base
		class := t.globals[typ.head]
		switch {
		case class.Op != api.DClass:
			return fault{p.Index, api.ErrKind}
		case len(class.Kids) != len(values):
			return fault{p.Index, api.ErrArgs}
		}
		for i, value := range values {
			if e := u.assign(value, u.readAt(t.program[class.Kids[i]].Kids[0]), nil); e != api.OK {
				return fault{value, e}
			}
		}
		return at(p.Index, u.unify(variable, typ))
	})
}

// array treats the length and the initial value of a new array.
func (t *typer) array(p walk.Place) fault {
	length, value := p.Kids[1], p.Kids[2]
	element := t.readHere(p.Kids[0])
	return t.unit(p.Kids[1:], knows(p), has(length, named("int")), gets(value, element), func(u *unit) fault {
		variable, _ := u.localAt(p)
		return at(p.Index, u.unify(variable, named("array", element.base)))
	})
}

// match treats the value of a match, and then its cases.
func (t *typer) match(p walk.Place) fault {
	value := p.Kids[0]
	matchable := func(u *unit) fault {
		typ, e := u.known(value)
		if e == api.OK && typ.head != "int" && typ.head != "bool" && u.globals[typ.head].Op != api.DDatatype {
			e = api.ErrType
		}
		return at(value, e)
	}
	if f := t.unit(p.Kids[:1], matchable); !f.isNone() {
		return f
	}
	return t.all(p.Kids[1:])
}

// matched treats the pattern of a case, and then its block.
func (t *typer) matched(p walk.Place) fault {
	if f := t.unit(p.Kids[:1]); !f.isNone() {
		return f
	}
	return t.part(p.Kids[1])
}

// calculation treats the steps, and then their hints.
func (t *typer) calculation(p walk.Place) fault {
	var steps, hints []int
	want := &typ{}
	demands := []func(*unit) fault{}
	logical, compared := false, false
	for _, kid := range p.Kids {
		step := t.tree[kid]
		steps = append(steps, step.Kids[0])
		hints = append(hints, step.Kids[1:]...)
		logical = logical || step.Text == "==>"
		compared = compared || step.Text == "<=" || step.Text == "<"
	}
	for _, step := range steps {
		demands = append(demands, has(step, want))
		if logical {
			demands = append(demands, has(step, named("bool")))
		}
		if compared {
			demands = append(demands, has(step, named("int")))
		}
	}
	if f := t.unit(steps, demands...); !f.isNone() {
		return f
	}
	return t.all(hints)
}

// quantified treats the range, the clause and the block of an SForall.
func (t *typer) quantified(p walk.Place) fault {
	rest := p.Kids[len(p.Kids)-3:]
	if f := t.unit(rest[:1], has(rest[0], named("bool"))); !f.isNone() {
		return f
	}
	return t.all(rest[1:])
}
