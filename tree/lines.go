package tree

import (
	"strings"

	"entail/api"
	"entail/common"
	"entail/walk"
)

// lines returns the lines of any node.
func (p printer) lines(node int) []string {
	n := p.tree[node]
	switch n.Op {
	case api.SCase, api.SGuard:
		return p.block("case "+p.kid(n, 0)+" => ", n.Kids[1])
	case api.SStep:
		return p.step(n)
	case api.DClass:
		return enclose("class "+n.Text+" {", common.Transform(n.Kids, p.field), "}")
	case api.DFunction:
		return p.function(n)
	case api.DMethod:
		return p.method(n)
	case api.MModule:
		return p.module(n)
	case api.MProgram:
		return p.all(n.Kids)
	}
	if classOf(n.Op) == Statement {
		return p.statement(node)
	}
	return []string{p.text(node)}
}

// all returns the lines of some nodes, one after the other.
func (p printer) all(nodes []int) []string {
	var out []string
	for _, node := range nodes {
		out = append(out, p.lines(node)...)
	}
	return out
}

func indented(lines []string) []string {
	return common.Transform(lines, func(line string) string { return "  " + line })
}

// enclose returns lines, indented, between two others.
func enclose(first string, inner []string, last string) []string {
	out := append([]string{first}, indented(inner)...)
	return append(out, last)
}

// block returns the lines of an SBlock behind a head.
func (p printer) block(head string, node int) []string {
	return enclose(head+"{", p.all(p.tree[node].Kids), "}")
}

// statement returns the lines of a statement.
func (p printer) statement(node int) []string {
	n := p.tree[node]
	last := len(n.Kids) - 1
	switch n.Op {
	case api.SBlock:
		return p.block("", node)
	case api.SIf:
		return p.conditional(n)
	case api.SAlt:
		return enclose("if {", p.all(n.Kids), "}")
	case api.SMatch:
		return enclose("match "+p.kid(n, 0)+" {", p.all(n.Kids[1:]), "}")
	case api.SCalc:
		return enclose("calc {", p.all(n.Kids), "}")
	case api.SWhile:
		return p.withClauses("while "+p.kid(n, 0), n.Kids[1:last], p.block("", n.Kids[last]))
	case api.SForall:
		variables := walk.Kids(p.tree, n, api.QVar)
		head := p.list("forall ", variables, " | ") + p.kid(n, len(variables))
		return p.withClauses(head, n.Kids[last-1:last], p.block("", n.Kids[last]))
	case api.SAssert:
		if last == 1 {
			return p.block(p.claim(n)+" by ", n.Kids[last])
		}
	}
	return []string{p.simple(n) + ";"}
}

// withClauses returns the lines of a head, of clauses, and of a body.
func (p printer) withClauses(head string, clauses []int, body []string) []string {
	out := append([]string{head}, indented(p.all(clauses))...)
	return append(out, body...)
}

func (p printer) conditional(n api.Node) []string {
	out := p.block("if "+p.open(n.Kids[0])+" ", n.Kids[1])
	if len(n.Kids) == 2 {
		return out
	}
	rest := p.lines(n.Kids[2])
	out[len(out)-1] += " else " + rest[0]
	return append(out, rest[1:]...)
}

// step returns the lines of a step of an SCalc; where it has no relation, nothing follows its expression.
func (p printer) step(n api.Node) []string {
	out := []string{p.open(n.Kids[0]) + ";"}
	switch {
	case n.Text == "":
		return out
	case len(n.Kids) == 1:
		return append(out, n.Text)
	}
	return append(out, p.block(n.Text+" ", n.Kids[1])...)
}

// claim returns the text of an assertion.
func (p printer) claim(n api.Node) string {
	if n.Text == "" {
		return "assert " + p.kid(n, 0)
	}
	return "assert " + n.Text + ": " + p.kid(n, 0)
}

// simple returns the text of a statement of one line, without its semicolon.
func (p printer) simple(n api.Node) string {
	switch n.Op {
	case api.SVar:
		return p.variable("var ", n)
	case api.SGhostVar:
		return p.variable("ghost var ", n)
	case api.SAssign:
		return p.open(n.Kids[0]) + " := " + p.kid(n, 1)
	case api.SHavoc:
		return p.open(n.Kids[0]) + " := *"
	case api.SChoose:
		return n.Text + " :| " + p.kid(n, 0)
	case api.SCall:
		return p.some("", p.tree[n.Kids[0]].Kids, " := ") + p.list("call "+n.Text+"(", n.Kids[1:], ")")
	case api.SNew:
		return n.Text + " := new " + p.kid(n, 0) + p.list("(", n.Kids[1:], ")")
	case api.SNewArray:
		return n.Text + " := new array<" + p.kid(n, 0) + ">" + p.list("(", n.Kids[1:], ")")
	case api.SAssert:
		return p.claim(n)
	case api.SAssume:
		return "assume " + p.kid(n, 0)
	case api.SPrint:
		return "print " + p.kid(n, 0)
	case api.SReveal:
		return "reveal " + n.Text
	}
	return "return"
}

// variable returns the text of the declaration of a local variable.
func (p printer) variable(word string, n api.Node) string {
	if len(n.Kids) == 1 {
		return word + p.typed(n)
	}
	return word + p.typed(n) + " := " + p.kid(n, 1)
}

// typed returns the Text of a node with the type that is its first child.
func (p printer) typed(n api.Node) string {
	return n.Text + ": " + p.kid(n, 0)
}

// part returns the text of a node of one line that is no type, no expression and no pattern.
func (p printer) part(n api.Node) string {
	switch n.Op {
	case api.ECase:
		return "case " + p.kid(n, 0) + " => " + p.kid(n, 1)
	case api.QVar, api.DParam, api.DOut, api.DField:
		return p.typed(n)
	case api.DGhostParam:
		return "ghost " + p.typed(n)
	case api.DGhostField:
		return "ghost var " + p.typed(n) + ";"
	case api.QTrigger:
		return p.list("{", n.Kids, "}")
	case api.SLhs:
		return p.kids(n.Kids, ", ")
	case api.DResult:
		return p.kid(n, 0)
	case api.MImport:
		return "import " + n.Text + ";"
	case api.MExport:
		return "export" + p.some(" ", n.Kids, "") + ";"
	case api.MRefines:
		return "refines " + n.Text
	}
	switch classOf(n.Op) {
	case Clause:
		return p.clause(n)
	case Declaration:
		return p.declaration(n)
	}
	if n.Op == api.DCons {
		return n.Text + p.some("(", n.Kids, ")")
	}
	return n.Text
}

func (p printer) clause(n api.Node) string {
	words := [...]string{"requires ", "ensures ", "invariant ", "decreases ", "reads ", "modifies "}
	return p.list(words[n.Op-api.CRequires], n.Kids, "")
}

// declaration returns the text of a declaration of one line.
func (p printer) declaration(n api.Node) string {
	switch n.Op {
	case api.DDatatype:
		constructors := p.kids(walk.Kids(p.tree, n, api.DCons), " | ")
		return "datatype " + n.Text + p.some("<", walk.Kids(p.tree, n, api.DTypeParam), ">") + " = " + constructors
	case api.DSubset:
		return "type " + n.Text + " = " + p.kid(n, 0) + " | " + p.kid(n, 1) + " witness " + p.kid(n, 2)
	}
	return "const " + p.typed(n) + " := " + p.kid(n, 1) + ";"
}

// field returns the line of a field of a class.
func (p printer) field(node int) string {
	if n := p.tree[node]; n.Op == api.DField {
		return "var " + p.typed(n) + ";"
	}
	return p.text(node)
}

// signature returns the text of a function or a method up to its parameters.
func (p printer) signature(word string, n api.Node) string {
	marks := common.Transform(walk.Kids(p.tree, n, api.DMark), p.text)
	head := strings.Join(append(marks, word+" "+n.Text), " ")
	return head + p.some("<", walk.Kids(p.tree, n, api.DTypeParam), ">") + p.list("(", walk.Kids(p.tree, n, api.DParam, api.DGhostParam), ")")
}

// clauses returns the children that are clauses.
func (p printer) clauses(n api.Node) []int {
	return walk.Kids(p.tree, n, api.CRequires, api.CReads, api.CModifies, api.CEnsures, api.CDecreases)
}

func (p printer) function(n api.Node) []string {
	head := p.signature("function", n) + ": " + p.kids(walk.Kids(p.tree, n, api.DResult), "")
	var body []string
	if last := n.Kids[len(n.Kids)-1]; classOf(p.tree[last].Op) == Expression {
		body = enclose("{", p.lines(last), "}")
	}
	return p.withClauses(head, p.clauses(n), body)
}

func (p printer) method(n api.Node) []string {
	head := p.signature("method", n) + p.some(" returns (", walk.Kids(p.tree, n, api.DOut), ")")
	var body []string
	for _, block := range walk.Kids(p.tree, n, api.SBlock) {
		body = p.block("", block)
	}
	return p.withClauses(head, p.clauses(n), body)
}

// module returns the lines of a module; one without a name is not enclosed.
func (p printer) module(n api.Node) []string {
	refines, rest := walk.Kids(p.tree, n, api.MRefines), n.Kids
	rest = rest[len(refines):]
	if n.Text == "" {
		return p.all(rest)
	}
	return enclose("module "+n.Text+p.some(" ", refines, "")+" {", p.all(rest), "}")
}
