package parse

import (
	"entail/api"
	"entail/tree"
)

// The levels of expressions that have a name here.
const (
	widest  = -1
	relates = 4
	prefix  = 9
	postfix = 10
	primary = 11
)

// How the operands of an operator come into the tree.
const (
	straight = iota
	turned   // the right operand first
	negated  // below an ENot
)

// operator is what stands between two operands.
type operator struct {
	text  string
	op    int
	level int
	way   int
}

// notIn is the operator that has two tokens.
const notIn = "!in"

// operators returns the operators with their levels.
func operators() []operator {
	return []operator{
		{"<==>", api.EIff, 0, straight},
		{"==>", api.EImp, 1, straight},
		{"||", api.EOr, 2, straight},
		{"&&", api.EAnd, 3, straight},
		{"==", api.EEq, relates, straight},
		{"!=", api.ENe, relates, straight},
		{"<", api.ELt, relates, straight},
		{"<=", api.ELe, relates, straight},
		{">", api.ELt, relates, turned},
		{">=", api.ELe, relates, turned},
		{"in", api.EIn, relates, straight},
		{notIn, api.EIn, relates, negated},
		{"&", api.EBitAnd, 5, straight},
		{"|", api.EBitOr, 5, straight},
		{"^", api.EBitXor, 5, straight},
		{"<<", api.EShl, 6, straight},
		{">>", api.EShr, 6, straight},
		{"+", api.EAdd, 7, straight},
		{"-", api.ESub, 7, straight},
		{"*", api.EMul, 8, straight},
		{"/", api.EDiv, 8, straight},
		{"%", api.EMod, 8, straight},
	}
}

// chains reports whether an operator may stand in a chain of several ones.
func (o operator) chains() bool {
	return o.op == api.EEq || o.op == api.ELt || o.op == api.ELe
}

// join returns the operation on two operands.
func (o operator) join(at int, left, right *part) *part {
	switch o.way {
	case turned:
		return newPart(o.op, at, "", right, left)
	case negated:
		return newPart(api.ENot, at, "", newPart(o.op, at, "", left, right))
	}
	return newPart(o.op, at, "", left, right)
}

// sides are the levels of the left and the right operand.
type sides [2]int

// operands returns the levels of the operands of the binary operations of a level.
func operands(level int) sides {
	switch level {
	case 1:
		return sides{2, 1}
	case relates:
		return sides{5, 5}
	}
	return sides{level, level + 1}
}

// Level returns the binding strength of an expression Op.
func Level(op int) (int, api.Errno) {
	if class, e := tree.Class(op); e != api.OK || class != tree.Expression {
		return 0, api.ErrKind
	}
	for _, o := range operators() {
		if o.op == op {
			return o.level, api.OK
		}
	}
	switch op {
	case api.ENot, api.ENeg, api.ECard:
		return prefix, api.OK
	case api.EField, api.EIs, api.EIndex, api.ESlice, api.EUpdate:
		return postfix, api.OK
	case api.EIf, api.ELet, api.EForall, api.EExists, api.ESetOf, api.EMatch:
		return widest, api.OK
	}
	return primary, api.OK
}
