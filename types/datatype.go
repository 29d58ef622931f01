package types

import (
	"entail/api"
	"entail/common"
)

// constructor is a constructor of an instance of a datatype.
type constructor struct {
	name   string
	fields []field
}

// field is a field with its type.
type field struct {
	name string
	typ  shape
}

// Constructors returns the constructors of a datatype instance, with the types of their fields.
func Constructors(p api.Tree, s string) ([]api.Cons, api.Errno) {
	f, t, e := given(p, s)
	if e != api.OK {
		return nil, e
	}
	list, e := f.constructors(t)
	if e != api.OK {
		return nil, e
	}
	return common.Transform(list, constructor.declared), api.OK
}

// declared returns a constructor with the strings of its types.
func (c constructor) declared() api.Cons {
	return api.Cons{Name: c.name, Fields: common.Transform(c.fields, field.bound)}
}

func (f field) bound() api.Bound {
	return api.Bound{Name: f.name, Sort: f.typ.text()}
}

// constructors returns the constructors of an instance of a datatype.
func (p program) constructors(s shape) ([]constructor, api.Errno) {
	d, found := p.findType(s.head)
	switch {
	case !found:
		return nil, api.ErrUnknown
	case d.Op != api.DDatatype:
		return nil, api.ErrKind
	}
	params := p.kids(d, api.DTypeParam)
	if len(params) != len(s.args) {
		return nil, api.ErrArgs
	}
	bound := map[string]shape{}
	for i, param := range params {
		if _, found := bound[param.Text]; !found {
			bound[param.Text] = s.args[i]
		}
	}
	var out []constructor
	for _, c := range p.kids(d, api.DCons) {
		fields := common.Transform(p.kids(c, api.DField), func(d declaration) field { return field{d.Text, p.typeOf(d).put(bound)} })
		if e := common.First(common.Transform(fields, func(f field) api.Errno { return f.typ.size() })...); e != api.OK {
			return nil, e
		}
		out = append(out, constructor{c.Text, fields})
	}
	return out, api.OK
}

// Member returns the type of a field or destructor of a type, and whether it is ghost.
func Member(p api.Tree, s, name string) (string, bool, api.Errno) {
	f, t, e := given(p, s)
	if e != api.OK {
		return "", false, e
	}
	base, e := f.base(t)
	if e != api.OK {
		return "", false, e
	}
	switch d, _ := f.findType(base.head); d.Op {
	case api.DClass:
		if len(base.args) > 0 {
			return "", false, api.ErrArgs
		}
		return classMember(f.fields(d), name)
	case api.DDatatype:
		list, e := f.constructors(base)
		if e != api.OK {
			return "", false, e
		}
		return destructor(list, name)
	}
	return "", false, api.ErrKind
}

// classMember returns what the field of a class with a name is.
func classMember(fields []Field, name string) (string, bool, api.Errno) {
	for _, f := range fields {
		if f.Name == name {
			return f.Type, f.Ghost, api.OK
		}
	}
	return "", false, api.ErrUnknown
}

// destructor returns the type of the first field with a name.
func destructor(list []constructor, name string) (string, bool, api.Errno) {
	typ, e := "", api.ErrUnknown
search:
	for _, c := range list {
		for _, f := range c.fields {
			if f.name == name {
				typ, e = f.typ.text(), api.OK
				break search
			}
		}
	}
	return typ, false, e
}
