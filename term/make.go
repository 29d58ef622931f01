package term

import (
	"slices"

	"entail/api"
	"entail/common"
)

// Bool returns the term true or false.
func Bool(b bool) api.Terms {
	if b {
		return api.Terms{{Op: api.LTrue, Sort: api.SortBool}}
	}
	return api.Terms{{Op: api.LFalse, Sort: api.SortBool}}
}

// Num returns a numeral.
func Num(sort, s string) (api.Terms, api.Errno) {
	switch {
	case !isNumeric(sort):
		return nil, api.ErrSort
	case numeralSort(s) != sort:
		return nil, api.ErrForm
	}
	return api.Terms{{Op: api.LNum, Sort: sort, Name: s}}, api.OK
}

// Var returns a variable.
func Var(name, sort string) api.Terms {
	return api.Terms{{Op: api.LVar, Sort: sort, Name: name}}
}

// App returns the application of a function symbol.
func App(sig api.Signature, name string, args ...api.Terms) (api.Terms, api.Errno) {
	f, e := Function(sig, name)
	if e != api.OK {
		return nil, e
	}
	if len(args) != len(f.Args) {
		return nil, api.ErrArgs
	}
	if e := wellFormed(args...); e != api.OK {
		return nil, e
	}
	if !sameSorts(rootSorts(args), f.Args) {
		return nil, api.ErrSort
	}
	return above(api.Term{Op: api.LApp, Sort: f.Sort, Name: name}, args)
}

// Make returns a term with a connective, an equality, a comparison or an arithmetic operation at the top.
func Make(op int, kids ...api.Terms) (api.Terms, api.Errno) {
	if op < api.LNot || op > api.LLe {
		return nil, api.ErrKind
	}
	if e := wellFormed(kids...); e != api.OK {
		return nil, e
	}
	f := forms()[op]
	if len(kids) < f.least || len(kids) > f.most {
		return nil, api.ErrShape
	}
	sort, right := f.result(rootSorts(kids))
	if !right {
		return nil, api.ErrSort
	}
	return above(api.Term{Op: op, Sort: sort}, kids)
}

// Quantify returns a quantified formula.
func Quantify(op int, vars []api.Bound, triggers [][]api.Terms, body api.Terms) (api.Terms, api.Errno) {
	if !isQuantifier(op) {
		return nil, api.ErrKind
	}
	if e := common.First(CheckForm(body), wellFormed(slices.Concat(triggers...)...)); e != api.OK {
		return nil, e
	}
	switch {
	case slices.ContainsFunc(triggers, func(l []api.Terms) bool { return len(l) == 0 }):
		return nil, api.ErrShape
	case !isBool(body[len(body)-1].Sort):
		return nil, api.ErrSort
	}
	kids := common.Transform(triggers, func(l []api.Terms) api.Terms { return joined(api.Term{Op: api.LTrigger}, l) })
	return above(api.Term{Op: op, Sort: api.SortBool, Vars: vars}, append(kids, body))
}

// rootSorts returns the sorts of the roots of terms.
func rootSorts(terms []api.Terms) []string {
	return common.Transform(terms, func(t api.Terms) string { return t[len(t)-1].Sort })
}

// above returns a term with a new root above others, if it is well-formed.
func above(root api.Term, kids []api.Terms) (api.Terms, api.Errno) {
	size := 1
	for _, kid := range kids {
		size += len(kid)
	}
	if size > api.MaxTerm {
		return nil, api.ErrMany
	}
	out := joined(root, kids)
	if e := CheckForm(out); e != api.OK {
		return nil, e
	}
	return out, api.OK
}

// joined returns a term with a new root above others.
func joined(root api.Term, kids []api.Terms) api.Terms {
	var out api.Terms
	root.Vars, root.Kids = slices.Clone(root.Vars), nil
	for _, kid := range kids {
		out = append(out, moved(kid, len(out))...)
		root.Kids = append(root.Kids, len(out)-1)
	}
	return append(out, root)
}

// moved returns a copy of some nodes in which the indices of the children are greater by a number.
func moved(t api.Terms, by int) api.Terms {
	out := make(api.Terms, len(t))
	copy(out, t)
	for i := range out {
		out[i].Vars = slices.Clone(t[i].Vars)
		out[i].Kids = common.Transform(t[i].Kids, func(kid int) int { return kid + by })
	}
	return out
}

// Sub returns the subterm at a node.
func Sub(t api.Terms, node int) (api.Terms, api.Errno) {
	if e := CheckForm(t); e != api.OK {
		return nil, e
	}
	if node < 0 || node >= len(t) {
		return nil, api.ErrUnknown
	}
	return sub(t, node), api.OK
}

// start returns the first node of the subterm at a node.
func start(t api.Terms, node int) int {
	for len(t[node].Kids) > 0 {
		node = t[node].Kids[0]
	}
	return node
}

func sub(t api.Terms, node int) api.Terms {
	from := start(t, node)
	return moved(t[from:node+1], -from)
}
