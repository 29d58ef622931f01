package parse

import (
	"math/rand"
	"slices"
	"strings"
	"testing"

	"entail/api"
	"entail/lex"
	"entail/tree"
)

// grammarText is the grammar of the document. Every name of its rules is that of a nonterminal here; what the notes say is written out: chains, targets, the two tokens of `!in`, and where a left brace begins a block (X- is X without a left brace in front).
const grammarText = `
Program = Contents | Module | Program2 Module
Program2 = Module | Program2 Module
Contents = Imports Export Decls
Imports = | Imports 'import' @Upper ';'
Export = | 'export' ';' | 'export' ExNames ';'
ExNames = ExName | ExNames ',' ExName
ExName = @Name | '+' @Name
Decls = | Decls Decl
Module = 'module' @Upper '{' Contents '}' | 'module' @Upper 'refines' @Upper '{' Contents '}'
Decl = 'datatype' @GUpper TParams '=' Conses | 'type' @GUpper '=' @Lower ':' Type '|' Expr 'witness' Expr
Decl = 'class' @GUpper '{' ClassFields '}' | 'const' @GLower ':' Type ':=' Expr ';'
Decl = Marks 'function' @GLower TParams '(' Params ')' ':' Type Clauses | Marks 'function' @GLower TParams '(' Params ')' ':' Type Clauses '{' Expr '}'
Decl = Marks 'method' @GLower TParams '(' Params ')' Returns Clauses | Marks 'method' @GLower TParams '(' Params ')' Returns Clauses Block
ClassFields = | ClassFields 'var' @Lower ':' Type ';' | ClassFields 'ghost' 'var' @Lower ':' Type ';'
Marks = | Marks Mark
Mark = 'ghost' | 'opaque' | 'hidden' | 'least' | 'greatest' | 'lemma' | 'fuel' @Digit
TParams = | '<' Uppers '>'
Uppers = @Upper | Uppers ',' @Upper
Conses = Cons | Conses '|' Cons
Cons = @GUpper | @GUpper '(' ')' | @GUpper '(' Typeds ')'
Typeds = @Lower ':' Type | Typeds ',' @Lower ':' Type
Params = | Params1
Params1 = Param | Params1 ',' Param
Param = @Lower ':' Type | 'ghost' @Lower ':' Type
Returns = | 'returns' '(' Typeds ')'
Clauses = | Clauses Clause
Clause = 'requires' Expr | 'ensures' Expr | 'reads' Expr | 'modifies' Expr | 'decreases' Exprs1
Exprs = | Exprs1
Exprs1 = Expr | Exprs1 ',' Expr
Type = 'bool' | 'int' | 'real' | @Bits | 'seq' '<' Type @Close | 'set' '<' Type @Close | 'multiset' '<' Type @Close | 'array' '<' Type @Close
Type = 'map' '<' Type ',' Type @Close | Named
Named = @GUpper | @GUpper '<' Types @Close
Types = Type | Types ',' Type
Block = '{' Stmts '}'
Stmts = | Stmts Stmt
Stmt = Block | 'var' @Lower ':' Type ';' | 'var' @Lower ':' Type ':=' Expr ';' | 'ghost' 'var' @Lower ':' Type ';' | 'ghost' 'var' @Lower ':' Type ':=' Expr ';'
Stmt = @Lower ':|' Expr ';' | Target ':=' '*' ';' | @Lower ':=' 'new' New ';' | Lhs 'call' @GLower '(' Exprs ')' ';' | Target ':=' Expr ';'
New = 'array' '<' Type @Close '(' Expr ',' Expr ')' | Named '(' Exprs ')'
Lhs = | Lowers ':='
Lowers = @Lower | Lowers ',' @Lower
Stmt = 'if' '{' Guards '}' | IfStmt
IfStmt = 'if' Expr- Block | 'if' Expr- Block 'else' Else
Else = Block | IfStmt
Guards = 'case' Expr '=>' Block | Guards 'case' Expr '=>' Block
Stmt = 'while' Expr Loop Block | 'match' Expr '{' SCases '}'
Loop = | Loop 'invariant' Expr | Loop 'decreases' Exprs1 | Loop 'modifies' Expr
SCases = 'case' Pattern '=>' Block | SCases 'case' Pattern '=>' Block
Stmt = 'assert' Expr By | 'assert' @Lower ':' Expr By
By = ';' | 'by' Block
Stmt = 'assume' Expr ';' | 'print' Expr ';' | 'return' ';' | 'reveal' @GLower ';' | 'calc' '{' Expr ';' Steps '}'
Steps = | Steps Rel Expr- ';' | Steps Rel Block Expr ';'
Rel = '==' | '==>' | '<=' | '<'
Stmt = 'forall' Typeds '|' Expr 'ensures' Expr Block
Target = @Lower | Postfix- '.' @Lower | Postfix- '[' Expr ']' | '(' Place ')'
Place = Postfix '.' @Lower | Postfix '[' Expr ']' | '(' Place ')'
Expr = 'if' Expr 'then' Expr 'else' Expr | 'var' @Lower ':=' Expr ';' Expr | Quant Typeds Triggers '::' Expr | 'set' @Lower ':' Type '|' Expr '::' Expr
Expr = 'match' Expr '{' ECases '}' | Level0
Quant = 'forall' | 'exists'
Triggers = | Triggers '{' Exprs1 '}'
ECases = 'case' Pattern '=>' Expr | ECases 'case' Pattern '=>' Expr
Level0 = Level1 | Level0 '<==>' Level1
Level1 = Level2 | Level2 '==>' Level1
Level2 = Level3 | Level2 '||' Level3
Level3 = Level4 | Level3 '&&' Level4
Level4 = Level5 | Level5 Links Level5 | Level5 '!=' Level5 | Level5 'in' Level5 | Level5 @NotIn 'in' Level5 | Chain Links Level5
Chain = Level5 Links Level5 | Chain Links Level5
Links = '==' | '<' | '<=' | '>' | '>='
Level5 = Level6 | Level5 '&' Level6 | Level5 '|' Level6 | Level5 '^' Level6
Level6 = Level7 | Level6 '<<' Level7 | Level6 @Right1 @Right2 Level7
Level7 = Level8 | Level7 '+' Level8 | Level7 '-' Level8
Level8 = Unary | Level8 '*' Unary | Level8 '/' Unary | Level8 '%' Unary
Unary = '!' Unary | '-' Unary | '#' Unary | Postfix
Postfix = Primary | Postfix '.' @Lower | Postfix '.' @GUpper '?' | Postfix '[' Expr ']' | Postfix '[' Expr '..' Expr ']' | Postfix '[' Expr ':=' Expr ']'
Primary = @Number | @Decimal | 'true' | 'false' | @GLower | @GLower '(' Exprs ')' | @GUpper | @GUpper '(' Exprs ')'
Primary = '(' Expr ')' | '(' Expr 'as' Type ')' | '[' Exprs ']' | '{' Exprs '}' | 'multiset' '{' Exprs '}' | 'map' '[' ']' | 'map' '[' Entries ']' | 'old' '(' Expr ')' | 'fresh' '(' Expr ')'
Entries = Expr ':=' Expr | Entries ',' Expr ':=' Expr
Pattern = @Lower | '_' | @GUpper | @GUpper '(' ')' | @GUpper '(' Patterns ')' | '-' @Number | @Number | 'true' | 'false'
Patterns = Pattern | Patterns ',' Pattern
`

// grammar has the bodies of each nonterminal.
type grammar map[string][][]string

func newGrammar() grammar {
	g := grammar{}
	for _, line := range strings.Split(strings.TrimSpace(grammarText), "\n") {
		name, bodies, _ := strings.Cut(line, " = ")
		for _, body := range splitBodies(bodies) {
			g[name] = append(g[name], body)
		}
	}
	for again := true; again; { // the nonterminals without a left brace in front
		again = false
		for _, bodies := range g {
			for _, body := range bodies {
				for _, symbol := range body {
					if base, cut := strings.CutSuffix(symbol, "-"); cut && symbol != "-" && g[symbol] == nil {
						again = true
						g[symbol] = withoutBrace(g[base], g)
					}
				}
			}
			if again {
				break // the map has changed
			}
		}
	}
	return g
}

// splitBodies returns the alternatives of a rule; a bar in quotes is a sign.
func splitBodies(text string) [][]string {
	out := [][]string{nil}
	for _, word := range strings.Fields(text) {
		if word == "|" {
			out = append(out, nil)
			continue
		}
		out[len(out)-1] = append(out[len(out)-1], word)
	}
	return out
}

func withoutBrace(bodies [][]string, g grammar) [][]string {
	var out [][]string
	for _, body := range bodies {
		switch {
		case body[0] == "'{'":
		case g[body[0]] != nil:
			out = append(out, append([]string{body[0] + "-"}, body[1:]...))
		default:
			out = append(out, body)
		}
	}
	return out
}

// matches reports whether a token, with the one behind it, is a terminal.
func matches(symbol string, t, next lex.Token) bool {
	lower, upper := initial(t.Text) >= 'a', initial(t.Text) <= 'Z'
	switch symbol {
	case "@Name":
		return t.Kind == lex.Name && isPlain(t.Text)
	case "@Lower":
		return t.Kind == lex.Name && isPlain(t.Text) && lower
	case "@Upper":
		return t.Kind == lex.Name && isPlain(t.Text) && upper
	case "@GLower":
		return t.Kind == lex.Name && lower
	case "@GUpper":
		return t.Kind == lex.Name && upper
	case "@Number":
		return t.Kind == lex.Number
	case "@Digit":
		return t.Kind == lex.Number && len(t.Text) == 1
	case "@Decimal":
		return t.Kind == lex.Decimal
	case "@Bits":
		return t.Kind == lex.Keyword && strings.HasPrefix(t.Text, "bv")
	case "@NotIn":
		return t.Text == "!" && next.Text == "in"
	case "@Close":
		return t.Text == ">" || t.Text == ">1" || t.Text == ">2"
	case "@Right1":
		return t.Text == ">1"
	case "@Right2":
		return t.Text == ">2"
	}
	return symbol == "'"+t.Text+"'"
}

// item is a rule that is taken up to a dot, from some token on.
type item struct {
	rule, dot, from int
}

// state is the items at one place, those before a nonterminal by that, too.
type state struct {
	seen    map[item]bool
	items   []item
	waiting map[string][]item
}

// recognizer has the rules of a grammar one after the other.
type recognizer struct {
	grammar
	names  []string
	bodies [][]string
	rules  map[string][]int
}

func newRecognizer(g grammar) *recognizer {
	out := &recognizer{g, nil, nil, map[string][]int{}}
	for name, bodies := range g {
		for _, body := range bodies {
			out.rules[name] = append(out.rules[name], len(out.names))
			out.names = append(out.names, name)
			out.bodies = append(out.bodies, body)
		}
	}
	return out
}

func (g *recognizer) add(s *state, x item) {
	if s.seen[x] {
		return
	}
	s.seen[x] = true
	s.items = append(s.items, x)
	if body := g.bodies[x.rule]; x.dot < len(body) && g.rules[body[x.dot]] != nil {
		s.waiting[body[x.dot]] = append(s.waiting[body[x.dot]], x)
	}
}

// recognize returns the number of tokens that a text of the grammar can begin with, and whether all of them are one. (Earley's way.)
func (g *recognizer) recognize(start string, tokens []lex.Token) (int, bool) {
	fresh := func() *state { return &state{map[item]bool{}, nil, map[string][]item{}} }
	states := []*state{fresh()}
	for _, rule := range g.rules[start] {
		g.add(states[0], item{rule, 0, 0})
	}
	for at := 0; ; at++ {
		here, then := states[at], fresh()
		states = append(states, then)
		var t, next lex.Token
		if at < len(tokens) {
			t = tokens[at]
		}
		if at+1 < len(tokens) {
			next = tokens[at+1]
		}
		for i := 0; i < len(here.items); i++ {
			x := here.items[i]
			body := g.bodies[x.rule]
			switch {
			case x.dot == len(body):
				for _, y := range states[x.from].waiting[g.names[x.rule]] {
					g.add(here, item{y.rule, y.dot + 1, y.from})
				}
			case g.rules[body[x.dot]] != nil:
				for _, rule := range g.rules[body[x.dot]] {
					g.add(here, item{rule, 0, at})
					if len(g.bodies[rule]) == 0 {
						g.add(here, item{x.rule, x.dot + 1, x.from})
					}
				}
			case at < len(tokens) && matches(body[x.dot], t, next):
				g.add(then, item{x.rule, x.dot + 1, x.from})
			}
		}
		if at == len(tokens) || len(then.items) == 0 {
			whole := slices.ContainsFunc(here.items, func(x item) bool {
				return g.names[x.rule] == start && x.from == 0 && x.dot == len(g.bodies[x.rule])
			})
			return at, whole && at == len(tokens)
		}
	}
}

// writer makes random sentences: at last by the rules that end soonest.
type writer struct {
	*rand.Rand
	grammar
	heights map[string]int
	words   []string
	least   int // with so many words, rules are taken that end soonest
}

func newWriter(g grammar, r *rand.Rand) *writer {
	w := &writer{Rand: r, grammar: g, heights: map[string]int{}}
	for changed := true; changed; {
		changed = false
		for name, bodies := range g {
			for _, body := range bodies {
				if h := w.height(body); w.heights[name] == 0 || h < w.heights[name] {
					changed = changed || h < endless
					w.heights[name] = h
				}
			}
		}
	}
	return w
}

// endless is more than the height of any rule that ends.
const endless = 1000

// height returns the height of a rule, as far as it is known.
func (w *writer) height(body []string) int {
	out := 1
	for _, symbol := range body {
		h := w.heights[symbol]
		if w.grammar[symbol] != nil && h == 0 {
			h = endless
		}
		out = max(out, h+1)
	}
	return min(out, endless)
}

func (w *writer) sentence(start string, least int) []string {
	w.words, w.least = nil, least
	w.write(start)
	return w.words
}

func (w *writer) write(symbol string) {
	bodies := w.grammar[symbol]
	if bodies == nil {
		w.words = append(w.words, terminal(w.Rand, symbol))
		return
	}
	body := bodies[w.Intn(len(bodies))]
	if len(w.words) >= w.least {
		body = slices.MinFunc(bodies, func(a, b []string) int { return w.height(a) - w.height(b) })
	}
	for _, s := range body {
		w.write(s)
	}
}

func terminal(r *rand.Rand, symbol string) string {
	pick := func(s ...string) string { return s[r.Intn(len(s))] }
	switch symbol {
	case "@Name":
		return pick("x", "X", "f")
	case "@Lower":
		return pick("x", "y", "l")
	case "@Upper":
		return pick("A", "T")
	case "@GLower":
		return pick("x", "f", "M::f")
	case "@GUpper":
		return pick("C", "M::C")
	case "@Number":
		return pick("0", "7", "12")
	case "@Digit":
		return pick("0", "3")
	case "@Decimal":
		return "1.5"
	case "@Bits":
		return pick("bv1", "bv64")
	case "@NotIn":
		return "!"
	case "@Close":
		return ">"
	case "@Right1":
		return ">>"
	case "@Right2":
		return ""
	}
	return strings.Trim(symbol, "'")
}

// mutated returns words with a change or two.
func mutated(r *rand.Rand, words []string) []string {
	out := slices.Clone(words)
	extra := append(lex.Keywords(), lex.Signs()...)
	extra = append(extra, "x", "f", "C", "M::f", "M::C", "7", "1.5", "12", "_", "bv8", "(", ")", "{", "}", "[", "]", ";", ",", ":=", "!", "in", ">>", ">")
	for range 1 + r.Intn(2) {
		at := r.Intn(len(out) + 1)
		switch word := extra[r.Intn(len(extra))]; {
		case at == len(out) || r.Intn(3) == 0:
			out = slices.Insert(out, at, word)
		case r.Intn(2) == 0:
			out = slices.Delete(out, at, at+1)
		case r.Intn(2) == 0:
			out[at] = word
		default:
			other := r.Intn(len(out))
			out[at], out[other] = out[other], out[at]
		}
	}
	return out
}

// halves returns tokens in which each sign >> is two, as in types.
func halves(tokens []lex.Token) []lex.Token {
	var out []lex.Token
	for _, t := range tokens {
		if t.Text == ">>" {
			out = append(out, lex.Token{Kind: lex.Sign, Text: ">1", At: t.At}, lex.Token{Kind: lex.Sign, Text: ">2", At: t.At + 1})
			continue
		}
		out = append(out, t)
	}
	return out
}

// TestGrammar compares the parser with a recognizer for any grammar: what is a text, and otherwise the first token that does not continue one. (P4.1, P4.2, P4.3)
func TestGrammar(t *testing.T) {
	r := rand.New(rand.NewSource(4))
	w := newWriter(newGrammar(), r)
	g := newRecognizer(w.grammar)
	accepted, refused := 0, 0
	for n := range 12000 {
		p := starts[n%len(starts)]
		words := w.sentence(p.start, r.Intn(30))
		if len(words) > 80 {
			continue
		}
		if n%4 > 0 {
			words = mutated(r, words)
		}
		switch compare(t, g, p.start, p.parse, strings.Join(words, " ")) {
		case isText:
			accepted++
		case isNone:
			refused++
		}
	}
	if accepted < 2000 || refused < 2000 {
		t.Errorf("only %d texts and %d others", accepted, refused)
	}
}

// What compare finds out about a text: whether it is one of the grammar, or has an error of another kind.
const (
	isOther = iota
	isText
	isNone
)

// compare compares what the parser and the recognizer say of a text.
func compare(t *testing.T, g *recognizer, start string, parse parserOf, text string) int {
	t.Helper()
	tokens, _, e := lex.Tokens(text)
	if e != api.OK {
		return isOther
	}
	tokens = halves(tokens)
	size, whole := g.recognize(start, tokens)
	parsed, at, e := parse(text)
	want := len(text)
	if size < len(tokens) {
		want = tokens[size].At
	}
	switch {
	case e == api.ErrTwice && at <= want:
		return isOther
	case whole:
		if e == api.ErrSyntax || e == api.OK && tree.Same(parsed, nil) {
			t.Fatalf("%s %q: %d at %d, want a tree", start, text, e, at)
		}
		return isText
	}
	if e != api.ErrSyntax || at != want || len(parsed) > 0 {
		t.Fatalf("%s %q: %d at %d, want ErrSyntax at %d", start, text, e, at, want)
	}
	return isNone
}

// TestConditions is for P4.2: after each beginning of a statement with an expression, all short lists of tokens, of which a left brace may be the first one, are read as the grammar says.
func TestConditions(t *testing.T) {
	g := newRecognizer(newGrammar())
	words := []string{"{", "}", "x", "==", "(", ")", "if", "case"}
	for _, begin := range []string{"if", "if x { } else", "if x { } else if", "if { case x => { } } else", "if x { } else if x { } else if", "while", "match", "calc { x; ==", "print", "x := "} {
		for _, end := range []string{"", "{ }", "; }"} {
			for i := range len(words) * len(words) * len(words) {
				text := strings.Join([]string{begin, words[i%8], words[i/8%8], words[i/64], end}, " ")
				compare(t, g, "Stmt", Statement, text)
			}
		}
	}
}
