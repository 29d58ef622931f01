package term

import (
	"iter"
	"math"

	"entail/api"
	"entail/num"
)

// many stands for any number of children.
const many = math.MaxInt

// form says what the nodes of an Op look like.
type form struct {
	least, most int // children
	name        func(string) bool
	variables   bool
	sort        func(string) bool
	head        string                        // of the text
	result      func([]string) (string, bool) // the sort for those of the children, and whether these are right; nil if the children do not decide it
}

// forms returns the form of each Op.
func forms() [api.TermOps]form {
	logic := form{2, 2, isEmpty, false, isBool, "", bools}
	arithmetic := form{2, 2, isEmpty, false, isNumeric, "", sums}
	comparison := form{2, 2, isEmpty, false, isBool, "", comparisons}
	quantifier := form{1, many, isEmpty, true, isBool, "", nil}
	return [api.TermOps]form{
		api.LTrue:    {0, 0, isEmpty, false, isBool, "true", nil},
		api.LFalse:   {0, 0, isEmpty, false, isBool, "false", nil},
		api.LNum:     {0, 0, isNumeral, false, isNumeric, "", nil},
		api.LVar:     {0, 0, isPlain, false, isPresent, "", nil},
		api.LApp:     {0, many, isPresent, false, isPresent, "", nil},
		api.LNot:     {1, 1, isEmpty, false, isBool, "not", bools},
		api.LAnd:     {0, many, isEmpty, false, isBool, "and", bools},
		api.LOr:      {0, many, isEmpty, false, isBool, "or", bools},
		api.LImp:     logic.called("=>"),
		api.LIff:     logic.called("iff"),
		api.LIte:     {3, 3, isEmpty, false, isPresent, "ite", choices},
		api.LEq:      {2, 2, isEmpty, false, isBool, "=", equations},
		api.LAdd:     arithmetic.called("+"),
		api.LSub:     arithmetic.called("-"),
		api.LMul:     arithmetic.called("*"),
		api.LLt:      comparison.called("<"),
		api.LLe:      comparison.called("<="),
		api.LForall:  quantifier.called("forall"),
		api.LExists:  quantifier.called("exists"),
		api.LTrigger: {1, many, isEmpty, false, isEmpty, "!", nil},
	}
}

// called returns a form with another head.
func (f form) called(head string) form {
	f.head = head
	return f
}

func isEmpty(s string) bool {
	return s == ""
}

func isPresent(s string) bool {
	return s != ""
}

func isBool(sort string) bool {
	return sort == api.SortBool
}

func isNumeric(sort string) bool {
	return sort == api.SortInt || sort == api.SortReal
}

func isNumeral(s string) bool {
	return numeralSort(s) != ""
}

// numeralSort returns the sort of a numeral, or an empty string.
func numeralSort(s string) string {
	switch {
	case num.Check(s) == api.OK:
		return api.SortInt
	case num.CheckReal(s) == api.OK:
		return api.SortReal
	}
	return ""
}

// bools, choices, equations, sums and comparisons return the sort of a connective or an operation for the sorts of its children, and whether these are right.
func bools(sorts []string) (string, bool) {
	for _, sort := range sorts {
		if !isBool(sort) {
			return "", false
		}
	}
	return api.SortBool, true
}

func choices(sorts []string) (string, bool) {
	return sorts[1], isBool(sorts[0]) && sorts[1] == sorts[2]
}

func equations(sorts []string) (string, bool) {
	return api.SortBool, sorts[0] == sorts[1]
}

func sums(sorts []string) (string, bool) {
	return sorts[0], isNumeric(sorts[0]) && sorts[0] == sorts[1]
}

func comparisons(sorts []string) (string, bool) {
	_, right := sums(sorts)
	return api.SortBool, right
}

// place is a node with its index.
type place struct {
	api.Term
	index int
}

// nodes yields the nodes of a term with their indices.
func nodes(t api.Terms) iter.Seq[place] {
	return func(yield func(place) bool) {
		for i, n := range t {
			if !yield(place{n, i}) {
				return
			}
		}
	}
}

// checker examines the nodes of a term one after the other; of those before the present one it knows the first node of the subterm, and its depth.
type checker struct {
	term  api.Terms
	forms [api.TermOps]form
	start []int
	depth []int
}

// CheckForm returns the first error of the form of a term, or OK.
func CheckForm(t api.Terms) api.Errno {
	switch {
	case len(t) == 0:
		return api.ErrEmpty
	case len(t) > api.MaxTerm:
		return api.ErrMany
	}
	c := &checker{t, forms(), make([]int, len(t)), make([]int, len(t))}
	for p := range nodes(t) {
		if e := c.node(p); e != api.OK {
			return e
		}
	}
	root := len(t) - 1
	switch {
	case c.start[root] != 0:
		return api.ErrOrder
	case t[root].Op == api.LTrigger:
		return api.ErrKind
	case c.depth[root] > api.MaxDepth:
		return api.ErrDeep
	}
	return api.OK
}

// wellFormed returns the error of the first term with one.
func wellFormed(terms ...api.Terms) api.Errno {
	for _, t := range terms {
		if e := CheckForm(t); e != api.OK {
			return e
		}
	}
	return api.OK
}

// node returns the error of a node.
func (c *checker) node(p place) api.Errno {
	if p.Op < 0 || p.Op >= api.TermOps {
		return api.ErrKind
	}
	f := c.forms[p.Op]
	switch {
	case len(p.Kids) < f.least || len(p.Kids) > f.most:
		return api.ErrShape
	case !c.ordered(p):
		return api.ErrOrder
	case !c.triggered(p):
		return api.ErrKind
	case !f.name(p.Name):
		return api.ErrName
	}
	if e := boundError(p.Vars, f.variables); e != api.OK {
		return e
	}
	if !f.sort(p.Sort) || p.Op == api.LNum && numeralSort(p.Name) != p.Sort {
		return api.ErrSort
	}
	return api.OK
}

// ordered reports whether the children are in post-order, and notes the first node and the depth of the subterm.
func (c *checker) ordered(p place) bool {
	before, depth := p.index, 0
	for i := len(p.Kids) - 1; i >= 0; i-- {
		kid := p.Kids[i]
		if kid < 0 || kid != before-1 {
			return false
		}
		before, depth = c.start[kid], max(depth, c.depth[kid])
	}
	c.start[p.index], c.depth[p.index] = before, depth+1
	return true
}

// triggered reports whether the triggers among the children are where they may be.
func (c *checker) triggered(p place) bool {
	for i, kid := range p.Kids {
		inFront := isQuantifier(p.Op) && i < len(p.Kids)-1
		if inFront != (c.term[kid].Op == api.LTrigger) {
			return false
		}
	}
	return true
}

func isQuantifier(op int) bool {
	return op == api.LForall || op == api.LExists
}

// boundError returns the error of the variables of a node, which binds some or none.
func boundError(vars []api.Bound, some bool) api.Errno {
	if some != (len(vars) > 0) || len(vars) > MaxVars {
		return api.ErrMany
	}
	seen := map[string]bool{}
	for _, v := range vars {
		if e := variable(v.Name, seen); e != api.OK {
			return e
		}
	}
	return api.OK
}
