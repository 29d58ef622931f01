package walk

import "entail/api"

// Binding is a bound variable: its name, the node that declares it, and the binding around it.
type Binding struct {
	Name  string
	Node  int
	Outer *Binding
}

// Find returns the innermost binding of a name, or nil.
func (b *Binding) Find(name string) *Binding {
	for b != nil && b.Name != name {
		b = b.Outer
	}
	return b
}

// All returns the bindings in scope, the outermost one first; of those of one name the innermost one alone.
func (b *Binding) All() []*Binding {
	var out []*Binding
	seen := map[string]bool{}
	for ; b != nil; b = b.Outer {
		if !seen[b.Name] {
			seen[b.Name] = true
			out = append([]*Binding{b}, out...)
		}
	}
	return out
}

// scoper finds out what is bound at each node.
type scoper struct {
	tree api.Tree
	at   []*Binding
}

// Scopes returns the innermost binding at each node. A parent has a greater index than its children, so that it comes first here.
func Scopes(t api.Tree) []*Binding {
	s := scoper{t, make([]*Binding, len(t))}
	for node := len(t) - 1; node >= 0; node-- {
		s.children(node)
	}
	return s.at
}

// children notes what is bound at the children of a node.
func (s scoper) children(node int) {
	switch s.tree[node].Op {
	case api.ELet, api.ECase, api.SCase:
		s.second(node)
	case api.EForall, api.EExists, api.ESetOf, api.SForall:
		s.quantifier(node)
	case api.SBlock:
		s.block(node)
	case api.DSubset:
		s.subset(node)
	case api.DFunction, api.DMethod:
		s.callable(node)
	default:
		for _, kid := range s.tree[node].Kids {
			s.at[kid] = s.at[node]
		}
	}
}

// declare returns the binding of the variables of some nodes, one inside of the other.
func (s scoper) declare(outer *Binding, declaring []int) *Binding {
	for _, node := range declaring {
		outer = &Binding{s.tree[node].Text, node, outer}
	}
	return outer
}

// second treats a node that binds variables in its second child.
func (s scoper) second(node int) {
	kids := s.tree[node].Kids
	s.at[kids[0]] = s.at[node]
	s.at[kids[1]] = s.declare(s.at[node], Declared(s.tree, node))
}

func (s scoper) quantifier(node int) {
	inner := s.declare(s.at[node], Declared(s.tree, node))
	for _, kid := range s.tree[node].Kids {
		if s.tree[kid].Op == api.QVar {
			s.at[kid] = s.at[node]
		} else {
			s.at[kid] = inner
		}
	}
}

func (s scoper) block(node int) {
	scope := s.at[node]
	for _, kid := range s.tree[node].Kids {
		s.at[kid] = scope
		if op := s.tree[kid].Op; op == api.SVar || op == api.SGhostVar {
			scope = s.declare(scope, []int{kid})
		}
	}
}

func (s scoper) subset(node int) {
	kids := s.tree[node].Kids
	s.at[kids[0]], s.at[kids[2]] = s.at[node], s.at[node]
	s.at[kids[1]] = s.declare(s.at[node], kids[:1])
}

func (s scoper) callable(node int) {
	params := s.declare(s.at[node], Kids(s.tree, s.tree[node], api.DParam, api.DGhostParam))
	outs := s.declare(params, Kids(s.tree, s.tree[node], api.DOut))
	for _, kid := range s.tree[node].Kids {
		switch s.tree[kid].Op {
		case api.DMark, api.DTypeParam, api.DParam, api.DGhostParam, api.DOut, api.DResult:
			s.at[kid] = s.at[node]
		case api.CRequires, api.CReads, api.CModifies, api.CDecreases:
			s.at[kid] = params
		default: // a CEnsures or the body
			s.at[kid] = outs
		}
	}
}

// Declared returns the nodes that declare the variables of an ELet, a quantifier, an ESetOf, an SForall or a case.
func Declared(t api.Tree, node int) []int {
	switch t[node].Op {
	case api.ELet:
		return []int{node}
	case api.ECase, api.SCase:
		return variables(t, t[node].Kids[0])
	}
	return Kids(t, t[node], api.QVar)
}

// variables returns the nodes of the variables of a pattern.
func variables(t api.Tree, pattern int) []int {
	var out []int
	for i := Start(t, pattern); i <= pattern; i++ {
		if t[i].Op == api.PVar {
			out = append(out, i)
		}
	}
	return out
}
