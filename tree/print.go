package tree

import (
	"strings"

	"entail/api"
	"entail/common"
	"entail/walk"
)

// The levels of expressions that have a name here; all others are numbers of the table in level.
const (
	widest  = -1 // binders and conditionals: the level that any position permits
	implies = 1
	relates = 4
	prefix  = 9
	postfix = 10
	primary = 11
)

// Print returns the source text of a tree.
func Print(t api.Tree) (string, api.Errno) {
	if e := checked(t); e != api.OK {
		return "", e
	}
	text := strings.Join(printer{t}.lines(len(t)-1), "\n")
	if len(text) > api.MaxText {
		return "", api.ErrLong
	}
	return text, api.OK
}

// printer makes the texts of the nodes of a tree.
type printer struct {
	tree api.Tree
}

// text returns the text of a node that has one line.
func (p printer) text(node int) string {
	switch n := p.tree[node]; {
	case classOf(n.Op) == Type:
		return p.typeText(n)
	case classOf(n.Op) == Pattern:
		return p.pattern(n)
	case classOf(n.Op) == Expression:
		return p.expression(n)
	default:
		return p.part(n)
	}
}

// kid returns the text of a child.
func (p printer) kid(n api.Node, i int) string {
	return p.text(n.Kids[i])
}

// kids returns the texts of some children, with a separator in between.
func (p printer) kids(nodes []int, separator string) string {
	return strings.Join(common.Transform(nodes, p.text), separator)
}

// list returns the texts of some children between two brackets.
func (p printer) list(open string, nodes []int, end string) string {
	return open + p.kids(nodes, ", ") + end
}

// some returns the texts of some children between two brackets, or nothing if there are none.
func (p printer) some(open string, nodes []int, end string) string {
	if len(nodes) == 0 {
		return ""
	}
	return p.list(open, nodes, end)
}

func (p printer) typeText(n api.Node) string {
	switch n.Op {
	case api.TBool:
		return "bool"
	case api.TInt:
		return "int"
	case api.TReal:
		return "real"
	case api.TBits:
		return "bv" + n.Text
	case api.TSeq:
		return p.list("seq<", n.Kids, ">")
	case api.TSet:
		return p.list("set<", n.Kids, ">")
	case api.TMulti:
		return p.list("multiset<", n.Kids, ">")
	case api.TMap:
		return p.list("map<", n.Kids, ">")
	case api.TArray:
		return p.list("array<", n.Kids, ">")
	}
	return n.Text + p.some("<", n.Kids, ">")
}

func (p printer) pattern(n api.Node) string {
	switch n.Op {
	case api.PWild:
		return "_"
	case api.PLit:
		return p.kid(n, 0)
	}
	return n.Text + p.some("(", n.Kids, ")")
}

// writer is how the expressions of some Ops that follow each other are written.
type writer struct {
	from, to int
	text     func(printer, api.Node) string
}

func writers() []writer {
	return []writer{
		{api.EInt, api.EVar, printer.name},
		{api.ENot, api.ENeg, printer.unary},
		{api.EAdd, api.EShr, printer.binary},
		{api.EAs, api.ELet, printer.wordy},
		{api.ECall, api.ECons, printer.call},
		{api.EField, api.EUpdate, printer.selection},
		{api.ECard, api.ECard, printer.unary},
		{api.ESeq, api.EMap, printer.display},
		{api.EForall, api.ESetOf, printer.quantifier},
		{api.EMatch, api.EMatch, printer.match},
		{api.EOld, api.EFresh, printer.wordy},
	}
}

func (p printer) expression(n api.Node) string {
	for _, w := range writers() {
		if w.from <= n.Op && n.Op <= w.to {
			return w.text(p, n)
		}
	}
	return ""
}

// level returns the level of an expression.
func level(op int) int {
	switch op {
	case api.EIff:
		return 0
	case api.EImp:
		return implies
	case api.EOr:
		return 2
	case api.EAnd:
		return 3
	case api.EEq, api.ENe, api.ELt, api.ELe, api.EIn:
		return relates
	case api.EBitAnd, api.EBitOr, api.EBitXor:
		return 5
	case api.EShl, api.EShr:
		return 6
	case api.EAdd, api.ESub:
		return 7
	case api.EMul, api.EDiv, api.EMod:
		return 8
	case api.ENot, api.ENeg, api.ECard:
		return prefix
	case api.EField, api.EIs, api.EIndex, api.ESlice, api.EUpdate:
		return postfix
	case api.EIf, api.ELet, api.EForall, api.EExists, api.ESetOf, api.EMatch:
		return widest
	}
	return primary
}

// operand returns the text of an expression at a position that permits a least level.
func (p printer) operand(node, least int) string {
	if level(p.tree[node].Op) < least {
		return "(" + p.text(node) + ")"
	}
	return p.text(node)
}

// open returns the text of an expression where a left brace must not come first.
func (p printer) open(node int) string {
	text := p.text(node)
	if strings.HasPrefix(text, "{") {
		return "(" + text + ")"
	}
	return text
}

func (p printer) name(n api.Node) string {
	return n.Text
}

func (p printer) unary(n api.Node) string {
	operand := p.operand(n.Kids[0], prefix)
	switch n.Op {
	case api.ENot:
		return "!" + operand
	case api.ENeg:
		return "-" + operand
	}
	return "#" + operand
}

func (p printer) binary(n api.Node) string {
	signs := [...]string{"+", "-", "*", "/", "%", "&&", "||", "==>", "<==>", "==", "!=", "<", "<=", "in", "&", "|", "^", "<<", ">>"}
	own := level(n.Op)
	left, right := own+1, own+1
	switch own {
	case implies:
		right = own
	case relates:
	default:
		left = own
	}
	return p.operand(n.Kids[0], left) + " " + signs[n.Op-api.EAdd] + " " + p.operand(n.Kids[1], right)
}

// wordy returns the text of an expression that is written with words.
func (p printer) wordy(n api.Node) string {
	switch n.Op {
	case api.EAs:
		return "(" + p.kid(n, 0) + " as " + p.kid(n, 1) + ")"
	case api.EIf:
		return "if " + p.kid(n, 0) + " then " + p.kid(n, 1) + " else " + p.kid(n, 2)
	case api.ELet:
		return "var " + n.Text + " := " + p.kid(n, 0) + "; " + p.kid(n, 1)
	case api.EOld:
		return p.list("old(", n.Kids, ")")
	}
	return p.list("fresh(", n.Kids, ")")
}

func (p printer) call(n api.Node) string {
	if n.Op == api.ECons {
		return n.Text + p.some("(", n.Kids, ")")
	}
	return p.list(n.Text+"(", n.Kids, ")")
}

// selection returns the text of an expression that takes a part of another one.
func (p printer) selection(n api.Node) string {
	object := p.operand(n.Kids[0], postfix)
	switch n.Op {
	case api.EField:
		return object + "." + n.Text
	case api.EIs:
		return object + "." + n.Text + "?"
	case api.EIndex:
		return object + "[" + p.kid(n, 1) + "]"
	case api.ESlice:
		return object + "[" + p.kid(n, 1) + ".." + p.kid(n, 2) + "]"
	}
	return object + "[" + p.kid(n, 1) + " := " + p.kid(n, 2) + "]"
}

func (p printer) display(n api.Node) string {
	switch n.Op {
	case api.ESeq:
		return p.list("[", n.Kids, "]")
	case api.ESet:
		return p.list("{", n.Kids, "}")
	case api.EMulti:
		return p.list("multiset{", n.Kids, "}")
	}
	var pairs []string
	for i := 0; i < len(n.Kids); i += 2 {
		pairs = append(pairs, p.kid(n, i)+" := "+p.kid(n, i+1))
	}
	return "map[" + strings.Join(pairs, ", ") + "]"
}

func (p printer) quantifier(n api.Node) string {
	if n.Op == api.ESetOf {
		return "set " + p.kid(n, 0) + " | " + p.kid(n, 1) + " :: " + p.kid(n, 2)
	}
	word := "forall "
	if n.Op == api.EExists {
		word = "exists "
	}
	out := p.list(word, walk.Kids(p.tree, n, api.QVar), "")
	for _, trigger := range walk.Kids(p.tree, n, api.QTrigger) {
		out += " " + p.text(trigger)
	}
	return out + " :: " + p.kid(n, len(n.Kids)-1)
}

func (p printer) match(n api.Node) string {
	return "match " + p.kid(n, 0) + " { " + p.kids(n.Kids[1:], " ") + " }"
}
