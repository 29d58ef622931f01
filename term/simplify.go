package term

import (
	"slices"

	"entail/api"
	"entail/common"
	"entail/num"
)

// Simplify returns a simpler term with the same meaning.
func Simplify(t api.Terms) (api.Terms, api.Errno) {
	if e := CheckForm(t); e != api.OK {
		return nil, e
	}
	done := make([]api.Terms, len(t))
	for p := range nodes(t) {
		done[p.index] = simpler(p.Term, common.Transform(p.Kids, func(kid int) api.Terms { return done[kid] }))
	}
	return done[len(t)-1], api.OK
}

// simpler returns what a node with simplified children becomes.
func simpler(n api.Term, kids []api.Terms) api.Terms {
	switch n.Op {
	case api.LNot:
		return negated(kids[0])
	case api.LAnd:
		return collected(n, kids, true)
	case api.LOr:
		return collected(n, kids, false)
	case api.LImp:
		return implied(n, kids[0], kids[1])
	case api.LIff:
		return equivalent(n, kids[0], kids[1])
	case api.LIte:
		return chosen(n, kids)
	case api.LEq:
		return equated(n, kids)
	case api.LAdd, api.LSub, api.LMul, api.LLt, api.LLe:
		return computed(n, kids)
	case api.LForall, api.LExists:
		if body := kids[len(kids)-1]; isConstant(body, true) || isConstant(body, false) {
			return body
		}
	}
	return joined(n, kids)
}

// isConstant reports whether a term is true, or false.
func isConstant(t api.Terms, value bool) bool {
	return Same(t, Bool(value))
}

// negated returns the simplified negation of a simplified formula.
func negated(a api.Terms) api.Terms {
	root := a[len(a)-1]
	switch {
	case isConstant(a, true):
		return Bool(false)
	case isConstant(a, false):
		return Bool(true)
	case root.Op == api.LNot:
		return sub(a, root.Kids[0])
	}
	return joined(api.Term{Op: api.LNot, Sort: api.SortBool}, []api.Terms{a})
}

// collected returns a conjunction, whose neutral value is true, or a disjunction, whose neutral value is false.
func collected(n api.Term, kids []api.Terms, neutral bool) api.Terms {
	var rest []api.Terms
	for _, kid := range kids {
		if isConstant(kid, !neutral) {
			return Bool(!neutral)
		}
		if !isConstant(kid, neutral) {
			rest = append(rest, kid)
		}
	}
	switch len(rest) {
	case 0:
		return Bool(neutral)
	case 1:
		return rest[0]
	}
	return joined(n, rest)
}

func implied(n api.Term, a, b api.Terms) api.Terms {
	switch {
	case isConstant(a, true):
		return b
	case isConstant(a, false), isConstant(b, true):
		return Bool(true)
	case isConstant(b, false):
		return negated(a)
	}
	return joined(n, []api.Terms{a, b})
}

func equivalent(n api.Term, a, b api.Terms) api.Terms {
	switch {
	case isConstant(a, true):
		return b
	case isConstant(b, true):
		return a
	case isConstant(a, false):
		return negated(b)
	case isConstant(b, false):
		return negated(a)
	case Same(a, b):
		return Bool(true)
	}
	return joined(n, []api.Terms{a, b})
}

func chosen(n api.Term, kids []api.Terms) api.Terms {
	switch {
	case isConstant(kids[0], true), Same(kids[1], kids[2]):
		return kids[1]
	case isConstant(kids[0], false):
		return kids[2]
	}
	return joined(n, kids)
}

func equated(n api.Term, kids []api.Terms) api.Terms {
	switch {
	case Same(kids[0], kids[1]):
		return Bool(true)
	case isNumber(kids[0]) && isNumber(kids[1]):
		return Bool(false)
	}
	return joined(n, kids)
}

// isNumber reports whether a term is a numeral.
func isNumber(t api.Terms) bool {
	return t[len(t)-1].Op == api.LNum
}

// arithmetic is the functions for the numerals of a sort.
type arithmetic struct {
	operations [3]func(a, b string) (string, api.Errno) // of LAdd, LSub and LMul
	compare    func(a, b string) (int, api.Errno)
}

// arithmeticOf returns the functions for the numerals of a sort.
func arithmeticOf(sort string) arithmetic {
	if sort == api.SortReal {
		return arithmetic{[3]func(a, b string) (string, api.Errno){num.AddReal, num.SubReal, num.MulReal}, num.CompareReal}
	}
	return arithmetic{[3]func(a, b string) (string, api.Errno){num.Add, num.Sub, num.Mul}, num.Compare}
}

// computed returns an operation or a comparison, of two numerals its result.
func computed(n api.Term, kids []api.Terms) api.Terms {
	a, b := kids[0][0], kids[1][0]
	if !isNumber(kids[0]) || !isNumber(kids[1]) || a.Sort != b.Sort {
		return joined(n, kids)
	}
	of := arithmeticOf(a.Sort)
	if n.Op == api.LLt || n.Op == api.LLe {
		order, _ := of.compare(a.Name, b.Name)
		return Bool(order < 0 || order == 0 && n.Op == api.LLe)
	}
	operation := slices.Index([]int{api.LAdd, api.LSub, api.LMul}, n.Op)
	result, e := of.operations[operation](a.Name, b.Name)
	if e != api.OK {
		return joined(n, kids)
	}
	return api.Terms{{Op: api.LNum, Sort: a.Sort, Name: result}}
}
