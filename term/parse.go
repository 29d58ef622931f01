package term

import (
	"slices"
	"strings"

	"entail/api"
)

// token is a parenthesis or a word with its offset; the end has no text.
type token struct {
	text string
	at   int
}

// tokensOf returns the tokens of a text, and the end.
func tokensOf(s string) []token {
	var out []token
	open := false // whether the last token is a word that may go on
	for i := range len(s) {
		switch c := s[i]; {
		case c == ' ', c == '\n':
			open = false
		case c == '(', c == ')':
			out = append(out, token{s[i : i+1], i})
			open = false
		case open:
			last := &out[len(out)-1]
			last.text = s[last.at : i+1]
		default:
			out = append(out, token{s[i : i+1], i})
			open = true
		}
	}
	return append(out, token{"", len(s)})
}

// isWord reports whether a token is neither a parenthesis nor the end.
func (t token) isWord() bool {
	return t.text != "" && t.text != "(" && t.text != ")"
}

// fault is an error with its offset.
type fault struct {
	at    int
	errno api.Errno
}

// parser reads a term. Its methods return the index of the node that they read.
type parser struct {
	*signature
	forms  [api.TermOps]form
	heads  map[string]int // the Ops of connectives, operations and quantifiers
	tokens []token
	scope  *binding
	out    api.Terms
	bad    fault
}

// Parse returns the term of a text, and the byte offset of the first error.
func Parse(sig api.Signature, vars []api.Bound, s string) (api.Terms, int, api.Errno) {
	known, e := read(sig)
	if e != api.OK {
		return nil, 0, e
	}
	if e := known.variables(vars); e != api.OK {
		return nil, 0, e
	}
	if len(s) > api.MaxText {
		return nil, 0, api.ErrLong
	}
	p := &parser{signature: known, forms: forms(), heads: map[string]int{}, tokens: tokensOf(s), scope: given(vars)}
	for op := api.LNot; op <= api.LExists; op++ {
		p.heads[p.forms[op].head] = op
	}
	p.term()
	if end := p.next(); end.text != "" {
		p.fail(end.at, api.ErrSyntax)
	}
	if p.bad.errno != api.OK {
		return nil, p.bad.at, p.bad.errno
	}
	if e := CheckForm(p.out); e != api.OK {
		return nil, 0, e
	}
	return p.out, 0, api.OK // the sorts were checked on the way
}

// next takes a token; the end remains.
func (p *parser) next() token {
	t := p.tokens[0]
	if t.text != "" {
		p.tokens = p.tokens[1:]
	}
	return t
}

// ahead reports whether a token with a text is the next one.
func (p *parser) ahead(text string) bool {
	return p.tokens[0].text == text
}

// fail notes an error, if it is the first one, and goes to the end, where nothing more is read.
func (p *parser) fail(at int, e api.Errno) int {
	if p.bad.errno == api.OK {
		p.bad = fault{at, e}
	}
	p.tokens = p.tokens[len(p.tokens)-1:]
	return 0
}

// failed reports whether an error was found.
func (p *parser) failed() bool {
	return p.bad.errno != api.OK
}

// expect takes a token with a text.
func (p *parser) expect(text string) {
	if t := p.next(); t.text != text {
		p.fail(t.at, api.ErrSyntax)
	}
}

// add appends a node.
func (p *parser) add(n api.Term) int {
	p.out = append(p.out, n)
	return len(p.out) - 1
}

// term reads a term.
func (p *parser) term() int {
	if p.failed() {
		return 0
	}
	t := p.next()
	if t.text == "(" {
		return p.compound(t)
	}
	name, isVariable := strings.CutPrefix(t.text, "?")
	sort := numeralSort(t.text)
	switch {
	case t.text == "true", t.text == "false":
		return p.add(Bool(t.text == "true")[0])
	case sort != "":
		return p.add(api.Term{Op: api.LNum, Sort: sort, Name: t.text})
	case isVariable && isPlain(name):
		return p.variable(name, t.at)
	case p.isFunction(t):
		return p.constant(t)
	}
	return p.fail(t.at, api.ErrSyntax)
}

// isFunction reports whether a token may be the name of a function.
func (p *parser) isFunction(t token) bool {
	_, found := p.interpreted(t.text)
	return found || t.isWord() && isSymbol(t.text)
}

// variable returns the node of a variable.
func (p *parser) variable(name string, at int) int {
	b := p.scope.find(name)
	if b == nil {
		return p.fail(at, api.ErrUnknown)
	}
	return p.add(api.Term{Op: api.LVar, Sort: b.Sort, Name: name})
}

// constant returns the node of a function without arguments.
func (p *parser) constant(t token) int {
	f, found := p.function(t.text)
	switch {
	case !found:
		return p.fail(t.at, api.ErrUnknown)
	case len(f.Args) > 0:
		return p.fail(t.at, api.ErrArgs)
	}
	return p.add(api.Term{Op: api.LApp, Sort: f.Sort, Name: f.Name})
}

// compound reads what follows a parenthesis.
func (p *parser) compound(open token) int {
	head := p.next()
	op, found := p.heads[head.text]
	switch {
	case found && isQuantifier(op):
		return p.quantifier(open, op)
	case found:
		return p.operation(open, op)
	case p.isFunction(head):
		return p.application(open, head)
	}
	return p.fail(head.at, api.ErrSyntax)
}

// list reads terms up to a closing parenthesis, from a least to a greatest number of them.
func (p *parser) list(least, most int) []int {
	var out []int
	for !p.failed() && !p.ahead(")") {
		if len(out) == most {
			p.fail(p.tokens[0].at, api.ErrSyntax)
			break
		}
		out = append(out, p.term())
	}
	if len(out) < least {
		p.fail(p.tokens[0].at, api.ErrSyntax)
	}
	p.expect(")")
	return out
}

// operation reads the operands of a connective or an operation.
func (p *parser) operation(open token, op int) int {
	f := p.forms[op]
	kids := p.list(f.least, f.most)
	if p.failed() {
		return 0
	}
	sort, right := f.result(sortsOf(p.out, kids))
	if !right {
		return p.fail(open.at, api.ErrSort)
	}
	return p.add(api.Term{Op: op, Sort: sort, Kids: kids})
}

// application reads the arguments of a function, and then looks for it.
func (p *parser) application(open, head token) int {
	kids := p.list(1, many)
	f, found := p.function(head.text)
	switch {
	case p.failed():
		return 0
	case !found:
		return p.fail(head.at, api.ErrUnknown)
	case len(kids) != len(f.Args):
		return p.fail(open.at, api.ErrArgs)
	case !sameSorts(sortsOf(p.out, kids), f.Args):
		return p.fail(open.at, api.ErrSort)
	}
	return p.add(api.Term{Op: api.LApp, Sort: f.Sort, Name: f.Name, Kids: kids})
}

// quantifier reads the variables, the triggers and the body of a quantifier.
func (p *parser) quantifier(open token, op int) int {
	outer := p.scope
	vars := p.bound()
	for i, v := range vars {
		p.scope = &binding{v, [2]int{open.at, i}, p.scope}
	}
	var kids []int
	for p.ahead("(") && p.tokens[1].text == p.forms[api.LTrigger].head {
		p.tokens = p.tokens[2:]
		terms := p.list(1, many)
		kids = append(kids, p.add(api.Term{Op: api.LTrigger, Kids: terms}))
	}
	body := p.term()
	p.expect(")")
	p.scope = outer
	switch {
	case p.failed():
		return 0
	case !isBool(p.out[body].Sort):
		return p.fail(open.at, api.ErrSort)
	}
	return p.add(api.Term{Op: op, Sort: api.SortBool, Vars: vars, Kids: append(kids, body)})
}

// bound reads a list of variables with their sorts.
func (p *parser) bound() []api.Bound {
	var out []api.Bound
	for p.expect("("); !p.failed() && (len(out) == 0 || !p.ahead(")")); {
		p.expect("(")
		name, sort := p.next(), token{}
		if !name.isWord() || !isPlain(name.text) {
			p.fail(name.at, api.ErrSyntax)
		}
		sort = p.next()
		switch {
		case !sort.isWord():
			p.fail(sort.at, api.ErrSyntax)
		case p.isNone(sort.text):
			p.fail(sort.at, api.ErrSort)
		}
		p.expect(")")
		out = append(out, api.Bound{Name: name.text, Sort: sort.text})
	}
	p.expect(")")
	return slices.Clip(out)
}
