// Package instance has the constructors of instances of datatypes, as values and patterns are made of them: with the base types of their fields. Its functions take flat programs and base types, and do not check them again.
package instance

import (
	"entail/api"
	"entail/common"
	"entail/types"
	"entail/walk"
)

// Constructor is a constructor of an instance of a datatype with the base types of its fields; a type that is too long or has no base is empty.
type Constructor struct {
	Name   string
	Fields []string
}

// Constructors returns the constructors of a base type: none if it is no well-formed instance of a datatype.
func Constructors(p api.Tree, typ string) []Constructor {
	list, e := types.Constructors(p, typ)
	if e == api.ErrLong {
		list = oneByOne(p, typ)
	}
	bases := map[string]string{}
	base := func(field api.Bound) string {
		if _, found := bases[field.Sort]; !found {
			bases[field.Sort], _ = types.Base(p, field.Sort)
		}
		return bases[field.Sort]
	}
	return common.Transform(list, func(c api.Cons) Constructor {
		return Constructor{c.Name, common.Transform(c.Fields, base)}
	})
}

// oneByOne returns the constructors of an instance with fields whose types are too long: these types are empty, the other ones are not.
func oneByOne(p api.Tree, typ string) []api.Cons {
	head, args, _ := types.Parts(typ)
	node, _ := types.Decl(p, head)
	bound := map[string]string{}
	for i, param := range walk.Kids(p, p[node], api.DTypeParam) {
		if _, found := bound[p[param].Text]; !found {
			bound[p[param].Text] = args[i]
		}
	}
	field := func(node int) api.Bound {
		return api.Bound{Name: p[node].Text, Sort: substituted(p, p[node].Kids[0], bound)}
	}
	return common.Transform(walk.Kids(p, p[node], api.DCons), func(c int) api.Cons {
		return api.Cons{Name: p[c].Text, Fields: common.Transform(p[c].Kids, field)}
	})
}

// substituted returns the type at a node with what the type parameters in it stand for.
func substituted(p api.Tree, node int, bound map[string]string) string {
	var bindings []types.Binding
	seen := map[string]bool{}
	for i := walk.Start(p, node); i <= node; i++ {
		name := p[i].Text
		if by, found := bound[name]; found && !seen[name] {
			seen[name] = true
			bindings = append(bindings, types.Binding{Name: name, Type: by})
		}
	}
	declared, _ := types.Of(p, node)
	out, _ := types.Subst(declared, bindings)
	return out
}
