package model

import (
	"slices"

	"entail/api"
	"entail/common"
	"entail/num"
	"entail/term"
)

// maxSteps is how many nodes are evaluated.
const maxSteps = 200000

// evaluation is a term with its model. The values of its variables are in slots: first those of the free ones, then those of the quantifiers, each one behind those around it.
type evaluation struct {
	*world
	api.Terms
	symbols []*symbol       // of the applications
	slots   []int           // of a variable its slot, of a quantifier that of its first variable
	ranges  [][][]api.Value // of the variables of the quantifiers
	isUnfit bool            // whether a quantifier ranges over a value that is not within the limits
	values  []api.Value
	steps   int
}

// scope is a variable with its slot.
type scope struct {
	name  string
	slot  int
	outer *scope
}

// find returns the slot of a variable.
func (s *scope) find(name string) int {
	for s.name != name {
		s = s.outer
	}
	return s.slot
}

// enter returns the scope of some variables inside of another one.
func (s *scope) enter(vars []api.Bound) *scope {
	for _, v := range vars {
		s = &scope{v.Name, s.next(), s}
	}
	return s
}

// next returns the first slot that is not taken.
func (s *scope) next() int {
	if s == nil {
		return 0
	}
	return s.slot + 1
}

// newEvaluation returns a term that was checked, with its free variables.
func (w *world) newEvaluation(t api.Terms, free []api.Bound) *evaluation {
	e := &evaluation{world: w, Terms: t, symbols: make([]*symbol, len(t)), slots: make([]int, len(t)), ranges: make([][][]api.Value, len(t))}
	at := make([]*scope, len(t))
	var outer *scope
	at[len(t)-1] = outer.enter(free)
	slots := len(free)
	for node := len(t) - 1; node >= 0; node-- {
		inner := at[node]
		switch t[node].Op {
		case api.LApp:
			e.symbols[node], _ = w.symbol(t[node].Name)
		case api.LVar:
			e.slots[node] = inner.find(t[node].Name)
		case api.LForall, api.LExists:
			e.slots[node] = inner.next()
			inner = inner.enter(t[node].Vars)
			slots = max(slots, inner.next())
			e.ranges[node] = common.Transform(t[node].Vars, e.rangeOf)
		}
		for _, kid := range t[node].Kids {
			at[kid] = inner
		}
	}
	e.values = make([]api.Value, slots)
	return e
}

// rangeOf returns the values of a variable of a quantifier.
func (e *evaluation) rangeOf(v api.Bound) []api.Value {
	out := e.world.values(e.known(v.Sort))
	e.isUnfit = e.isUnfit || slices.ContainsFunc(out, func(v api.Value) bool { return !fits(v) })
	return out
}

// unknown is the kind of the value of what depends on results that are not known.
const unknown = -1

func isUnknown(v api.Value) bool {
	return v.Kind == unknown
}

// run returns the value of the term.
func (e *evaluation) run() (api.Value, api.Errno) {
	e.steps = 0
	return e.value(len(e.Terms) - 1)
}

// value returns the value of a node.
func (e *evaluation) value(node int) (api.Value, api.Errno) {
	e.steps++
	if e.steps > maxSteps {
		return api.Value{}, api.ErrLimit
	}
	t := e.Terms[node]
	switch t.Op {
	case api.LVar:
		return e.values[e.slots[node]], api.OK
	case api.LForall, api.LExists:
		return e.quantified(node)
	}
	kids, errno := valuesOf(t.Kids, e.value)
	switch {
	case errno != api.OK:
		return api.Value{}, errno
	case t.Op == api.LApp:
		return e.applied(e.symbols[node], kids)
	}
	return combined(t, kids)
}

// valuesOf returns the values of nodes, or the first error.
func valuesOf(nodes []int, value func(int) (api.Value, api.Errno)) ([]api.Value, api.Errno) {
	out := make([]api.Value, len(nodes))
	for i, node := range nodes {
		v, e := value(node)
		if e != api.OK {
			return nil, e
		}
		out[i] = v
	}
	return out, api.OK
}

// quantified returns the value of a quantifier.
func (e *evaluation) quantified(node int) (api.Value, api.Errno) {
	t := e.Terms[node]
	decisive := t.Op == api.LExists
	out := ofBool(!decisive)
	for chosen := range tuples(e.ranges[node]) {
		copy(e.values[e.slots[node]:], chosen)
		v, errno := e.value(t.Kids[len(t.Kids)-1])
		switch {
		case errno != api.OK:
			return api.Value{}, errno
		case isUnknown(v):
			out = v
		case isTrue(v) == decisive:
			return v, api.OK
		}
	}
	return out, api.OK
}

// applied returns the result of a function.
func (e *evaluation) applied(f *symbol, args []api.Value) (api.Value, api.Errno) {
	if slices.ContainsFunc(args, isUnknown) {
		return api.Value{Kind: unknown}, api.OK
	}
	if e.isUnfit && slices.ContainsFunc(args, func(v api.Value) bool { return !fits(v) }) {
		return api.Value{}, api.ErrType
	}
	return f.value(args)
}

// combined returns the value of any other node for those of its children.
func combined(t api.Term, kids []api.Value) (api.Value, api.Errno) {
	switch t.Op {
	case api.LTrue, api.LFalse:
		return ofBool(t.Op == api.LTrue), api.OK
	case api.LNum:
		return numeral(t), api.OK
	case api.LAnd, api.LOr:
		return collected(kids, t.Op == api.LOr), api.OK
	case api.LImp:
		return implied(kids[0], kids[1]), api.OK
	case api.LIte:
		return decided(kids), api.OK
	}
	if slices.ContainsFunc(kids, isUnknown) {
		return api.Value{Kind: unknown}, api.OK
	}
	switch t.Op {
	case api.LNot:
		return ofBool(!isTrue(kids[0])), api.OK
	case api.LIff, api.LEq:
		return ofBool(same(kids[0], kids[1])), api.OK
	}
	return computed(t.Op, kids[0], kids[1])
}

// numeral returns the value of a numeral.
func numeral(t api.Term) api.Value {
	if t.Sort == api.SortReal {
		return api.Value{Kind: api.VReal, Num: t.Name}
	}
	return ofInt(t.Name)
}

// collected returns the value of a conjunction, which false decides, or a disjunction, which true decides.
func collected(kids []api.Value, decisive bool) api.Value {
	out := ofBool(!decisive)
	for _, v := range kids {
		switch {
		case isUnknown(v):
			out = v
		case isTrue(v) == decisive:
			return v
		}
	}
	return out
}

// truths is the numbers of two bools.
type truths [2]string

func implied(a, b api.Value) api.Value {
	if !isUnknown(a) && !isUnknown(b) {
		return ofBool(truths{a.Num, b.Num} != truths{"1", "0"})
	}
	if isTrue(a) || isUnknown(a) && !isTrue(b) {
		return api.Value{Kind: unknown}
	}
	return ofBool(true)
}

// decided returns the value of a conditional.
func decided(kids []api.Value) api.Value {
	switch {
	case isUnknown(kids[0]):
		return kids[0]
	case isTrue(kids[0]):
		return kids[1]
	}
	return kids[2]
}

// arithmetic is the functions for the numbers of a sort.
type arithmetic struct {
	add, sub, mul func(a, b string) (string, api.Errno)
	compare       func(a, b string) (int, api.Errno)
}

// computed returns the result of an operation on two numbers, or of their comparison.
func computed(op int, a, b api.Value) (api.Value, api.Errno) {
	of := arithmetic{num.Add, num.Sub, num.Mul, num.Compare}
	if a.Kind == api.VReal {
		of = arithmetic{num.AddReal, num.SubReal, num.MulReal, num.CompareReal}
	}
	operation := of.mul
	switch op {
	case api.LLt, api.LLe:
		order, _ := of.compare(a.Num, b.Num)
		return ofBool(order < 0 || order == 0 && op == api.LLe), api.OK
	case api.LAdd:
		operation = of.add
	case api.LSub:
		operation = of.sub
	}
	n, e := operation(a.Num, b.Num)
	if e != api.OK {
		return api.Value{}, e
	}
	return api.Value{Kind: a.Kind, Num: n}, api.OK
}

// prepared returns a term with the values of its variables, or its error.
func (w *world) prepared(l []Assigned, t api.Terms) (*evaluation, api.Errno) {
	given := map[string]api.Value{}
	for _, a := range l {
		given[a.Name] = a.Value
	}
	names := common.Transform(l, func(a Assigned) api.Bound { return api.Bound{Name: a.Name, Sort: api.SortBool} })
	if _, e := term.Check(w.plain, names, term.Bool(true)); e != api.OK {
		return nil, e
	}
	free, e := term.Free(t)
	if e != api.OK {
		return nil, e
	}
	for _, v := range free {
		if _, found := given[v.Name]; !found {
			return nil, api.ErrUnknown
		}
	}
	if _, e := term.Check(w.sig, free, t); e != api.OK {
		return nil, e
	}
	for _, v := range free {
		if !w.has(w.known(v.Sort), given[v.Name]) {
			return nil, api.ErrType
		}
	}
	out := w.newEvaluation(t, free)
	for i, v := range free {
		out.values[i] = given[v.Name]
	}
	return out, api.OK
}

// Eval returns the value of a term.
func Eval(sig api.Signature, m Model, l []Assigned, t api.Terms) (api.Value, api.Errno) {
	w, e := interpret(sig, m)
	if e != api.OK {
		return api.Value{}, e
	}
	prepared, e := w.prepared(l, t)
	if e != api.OK {
		return api.Value{}, e
	}
	v, e := prepared.run()
	return common.Clone(v), e
}

// Holds reports whether a closed formula is true.
func Holds(sig api.Signature, m Model, t api.Terms) (bool, api.Errno) {
	w, e := interpret(sig, m)
	if e != api.OK {
		return false, e
	}
	prepared, e := w.prepared(nil, t)
	switch {
	case e != api.OK:
		return false, e
	case t[len(t)-1].Sort != api.SortBool:
		return false, api.ErrSort
	}
	v, e := prepared.run()
	return isTrue(v), e
}

// Apply returns the result of a function symbol.
func Apply(sig api.Signature, m Model, name string, args []api.Value) (api.Value, api.Errno) {
	w, e := interpret(sig, m)
	if e != api.OK {
		return api.Value{}, e
	}
	f, found := w.symbol(name)
	if !found {
		return api.Value{}, api.ErrUnknown
	}
	if e := w.argumentsError(f, args); e != api.OK {
		return api.Value{}, e
	}
	v, e := f.value(args)
	return common.Clone(v), e
}

// Exact reports whether all quantifiers of a term range over all values of their sorts.
func Exact(sig api.Signature, t api.Terms) (bool, api.Errno) {
	w, e := newWorld(sig, MaxSize)
	if e := common.First(e, term.CheckForm(t)); e != api.OK {
		return false, e
	}
	exact := true
	for _, n := range t {
		for _, v := range n.Vars {
			s, found := w.sort(v.Sort)
			if !found {
				return false, api.ErrSort
			}
			exact = exact && w.isSmall(s)
		}
	}
	return exact, api.OK
}
