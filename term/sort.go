package term

import (
	"slices"
	"strings"

	"entail/api"
)

const (
	maxSort = 400 // bytes of a sort
	maxName = 200 // bytes of a name
)

// The kinds of sorts that are declared.
const (
	uninterpreted = "Sort"
	datatype      = "Data"
)

// family is a sort that is built from others.
type family struct {
	kind  string
	parts int
}

// families returns the sorts that are built from others.
func families() []family {
	return []family{{"Seq", 1}, {"Set", 1}, {"Map", 2}}
}

// parts returns the kind of a sort and the sorts in its brackets, or no kind.
func (s *signature) parts(sort string) (string, []string) {
	switch {
	case len(sort) > maxSort:
		return "", nil
	case sort == api.SortBool, sort == api.SortInt, sort == api.SortReal:
		return sort, nil
	case s.sorts[sort] != "":
		return s.sorts[sort], nil
	}
	for _, f := range families() {
		inner, opened := strings.CutPrefix(sort, f.kind+"<")
		inner, closed := strings.CutSuffix(inner, ">")
		if !opened || !closed {
			continue
		}
		if list := separated(inner); len(list) == f.parts && !slices.ContainsFunc(list, s.isNone) {
			return f.kind, list
		}
	}
	return "", nil
}

// isNone reports whether a string is no sort.
func (s *signature) isNone(sort string) bool {
	kind, _ := s.parts(sort)
	return kind == ""
}

// separated returns what the commas outside of brackets separate.
func separated(s string) []string {
	var out []string
	from, depth := 0, 0
	for i, c := range s {
		switch {
		case c == '<':
			depth++
		case c == '>':
			depth--
		case c == ',' && depth == 0:
			out = append(out, s[from:i])
			from = i + 1
		}
	}
	return append(out, s[from:])
}

// isPlain reports whether a string is 1 to 200 bytes without spaces, line feeds, parentheses and braces.
func isPlain(s string) bool {
	for _, c := range s {
		switch c {
		case ' ', '\n', '(', ')', '{', '}':
			return false
		}
	}
	return s != "" && len(s) <= maxName
}

// isSortName reports whether a string may be the name of a sort that is declared.
func isSortName(s string) bool {
	if s == api.SortBool || s == api.SortInt || s == api.SortReal {
		return false
	}
	depth := 0
	for _, c := range s {
		switch c {
		case '<':
			depth++
		case '>':
			depth--
		case ',':
			if depth == 0 {
				return false
			}
		}
		if depth < 0 {
			return false
		}
	}
	return depth == 0 && isPlain(s)
}

// isSymbol reports whether a string may be the name of a symbol, as far as interpreted functions are left aside.
func isSymbol(s string) bool {
	switch s {
	case "true", "false", "not", "and", "or", "iff", "ite", "forall", "exists", "+", "*", "<", "<=":
		return false
	}
	return isPlain(s) && !strings.ContainsAny(s[:1], "0123456789-?!=")
}

// law is an interpreted function of the sorts of a kind. In the codes of its sorts, S is the sort itself, T and V are the first and the last sort in its brackets, and B, I and R are Bool, Int and Real.
type law struct {
	kind, word   string
	args, result string
}

// laws returns the interpreted functions.
func laws() []law {
	return []law{
		{"Int", "div", "SS", "S"}, {"Int", "mod", "SS", "S"}, {"Int", "real", "S", "R"}, {"Real", "floor", "S", "I"},
		{"Map", "select", "ST", "V"}, {"Map", "store", "STV", "S"}, {"Map", "const", "V", "S"}, {"Map", "diff", "SS", "T"},
		{"Seq", "len", "S", "I"}, {"Seq", "at", "SI", "T"}, {"Seq", "empty", "", "S"}, {"Seq", "one", "T", "S"}, {"Seq", "cat", "SS", "S"},
		{"Seq", "put", "SIT", "S"}, {"Seq", "cut", "SII", "S"}, {"Seq", "pre", "SS", "B"}, {"Seq", "diff", "SS", "I"},
		{"Set", "has", "ST", "B"}, {"Set", "empty", "", "S"}, {"Set", "one", "T", "S"}, {"Set", "join", "SS", "S"}, {"Set", "meet", "SS", "S"},
		{"Set", "less", "SS", "S"}, {"Set", "sub", "SS", "B"}, {"Set", "size", "S", "I"}, {"Set", "diff", "SS", "T"},
	}
}

// interpreted returns the interpreted function with a name, and whether there is one.
func (s *signature) interpreted(name string) (api.Fun, bool) {
	word, sort, _ := strings.Cut(name, "$")
	kind, parts := s.parts(sort)
	if kind == "" || kind == uninterpreted || kind == datatype {
		return api.Fun{}, false
	}
	for _, l := range laws() {
		if l.kind == kind && l.word == word {
			return l.function(name, sort, parts), true
		}
	}
	return api.Fun{}, false
}

// function returns an interpreted function of a sort.
func (l law) function(name, sort string, parts []string) api.Fun {
	sortOf := func(code rune) string {
		switch code {
		case 'T':
			return parts[0]
		case 'V':
			return parts[1]
		case 'B':
			return api.SortBool
		case 'I':
			return api.SortInt
		case 'R':
			return api.SortReal
		}
		return sort
	}
	out := api.Fun{Name: name}
	for _, code := range l.args {
		out.Args = append(out.Args, sortOf(code))
	}
	for _, code := range l.result {
		out.Sort = sortOf(code)
	}
	return out
}
