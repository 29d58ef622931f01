package infer

import (
	"strings"

	"entail/api"
	"entail/common"
	"entail/types"
)

// maxLength is the greatest length of a type string.
const maxLength = 400

// typ is a type: a head with arguments, or a variable, which has no head and may stand for another type. (A type parameter of a declaration is a head.) Types share parts, so that one may be much longer than the memory that it takes.
type typ struct {
	head string
	args []*typ
	is   *typ
}

// named returns the type with a head and arguments.
func named(head string, args ...*typ) *typ {
	return &typ{head: head, args: args}
}

// readType returns the type of a type string.
func readType(s string) *typ {
	head, args, _ := types.Parts(s)
	return named(head, common.Transform(args, readType)...)
}

// now returns what a type is, as far as it is known.
func (t *typ) now() *typ {
	for t.is != nil {
		t = t.is
	}
	return t
}

// isOpen reports whether a type is a variable that is not known.
func (t *typ) isOpen() bool {
	return t.now().head == ""
}

// isLong reports whether a type is too long or nested too deeply, as far as it is known.
func (t *typ) isLong() bool {
	left := maxLength
	return !t.fits(&left, api.MaxDepth)
}

// fits reports whether a type has some levels at most, and fits into what is left of a length, which becomes less. It ends as soon as nothing is left.
func (t *typ) fits(left *int, levels int) bool {
	t = t.now()
	*left -= max(len(t.head), 1)
	if len(t.args) > 0 {
		*left-- // the closing bracket
	}
	if levels == 0 || *left < 0 {
		return false
	}
	for _, arg := range t.args {
		*left-- // what stands in front of the argument
		if !arg.fits(left, levels-1) {
			return false
		}
	}
	return true
}

// isClosed reports whether a type, which is not too long, has no variables that are not known.
func (t *typ) isClosed() bool {
	t = t.now()
	for _, arg := range t.args {
		if !arg.isClosed() {
			return false
		}
	}
	return !t.isOpen()
}

// text returns the string of a closed type.
func (t *typ) text() string {
	t = t.now()
	if len(t.args) == 0 {
		return t.head
	}
	return t.head + "<" + strings.Join(common.Transform(t.args, (*typ).text), ",") + ">"
}

// put returns a type in which type parameters are replaced.
func (t *typ) put(by map[string]*typ) *typ {
	if to, found := by[t.head]; found && len(t.args) == 0 {
		return to
	}
	return named(t.head, common.Transform(t.args, func(arg *typ) *typ { return arg.put(by) })...)
}

// kind returns the head of a type, of bit vectors without the width. (The names of declared types begin with an upper-case letter.)
func (t *typ) kind() string {
	head := t.now().head
	for i, c := range head {
		if i == 0 && c <= 'Z' {
			break
		}
		if c >= '0' && c <= '9' {
			return head[:i]
		}
	}
	return head
}

// pairs are those that are equal already; since types share parts, one pair may be met many times.
type pairs map[[2]*typ]bool

// unify makes two types equal, and reports whether they can be.
func (done pairs) unify(a, b *typ) bool {
	a, b = a.now(), b.now()
	pair := [2]*typ{a, b}
	switch {
	case a == b, done[pair]:
		return true
	case a.isOpen():
		return a.bind(b)
	case b.isOpen():
		return b.bind(a)
	case a.head != b.head || len(a.args) != len(b.args):
		return false
	}
	done[pair] = true
	for i := range len(a.args) {
		if !done.unify(a.args[i], b.args[i]) {
			return false
		}
	}
	return true
}

// bind lets a variable stand for another type, unless it occurs in it.
func (t *typ) bind(to *typ) bool {
	if t.within(to, map[*typ]bool{}) {
		return false
	}
	t.is = to
	return true
}

// within reports whether a variable occurs in a type, but for parts that were searched.
func (t *typ) within(in *typ, searched map[*typ]bool) bool {
	in = in.now()
	if searched[in] {
		return false
	}
	searched[in] = true
	for _, arg := range in.args {
		if t.within(arg, searched) {
			return true
		}
	}
	return t == in
}
