package value

import (
	"iter"
	"strings"

	"entail/api"
	"entail/num"
)

// The greatest numbers of a bit vector's width and of an object.
const (
	maxWidth  = 64
	maxObject = 99999
)

// placed is a value with its level in the value that is checked.
type placed struct {
	api.Value
	level int
}

// parts yields a value and all values in it, each one before its own.
func parts(v api.Value) iter.Seq[api.Value] {
	return func(yield func(api.Value) bool) {
		waiting := []api.Value{v}
		for len(waiting) > 0 {
			last := len(waiting) - 1
			next := waiting[last]
			waiting = waiting[:last]
			if !yield(next) {
				return
			}
			for i := range len(next.Items) {
				waiting = append(waiting, next.Items[len(next.Items)-1-i])
			}
		}
	}
}

// kind says which fields a value of a kind uses, what is in them, and how its Items are ordered.
type kind struct {
	num, text, items bool
	form             func(api.Value) bool
	step             int  // from an Item to the next one that is compared with it; 0 if there is no order
	strict           bool // equal ones do not follow each other
}

// kinds returns what is known of the kinds.
func kinds() [api.Kinds]kind {
	return [api.Kinds]kind{
		api.VBool:  {num: true, form: isBool},
		api.VInt:   {num: true, form: isInt},
		api.VReal:  {num: true, form: isReal},
		api.VBits:  {num: true, text: true, form: isBits},
		api.VSeq:   {items: true},
		api.VSet:   {items: true, step: 1, strict: true},
		api.VMulti: {items: true, step: 1},
		api.VMap:   {items: true, form: isPaired, step: 2, strict: true},
		api.VCons:  {text: true, items: true, form: isConstructor},
		api.VRef:   {num: true, form: isObject},
	}
}

func isBool(v api.Value) bool {
	return v.Num == "0" || v.Num == "1"
}

func isInt(v api.Value) bool {
	return num.Check(v.Num) == api.OK
}

func isReal(v api.Value) bool {
	return num.CheckReal(v.Num) == api.OK
}

func isBits(v api.Value) bool {
	return widthOf(v) > 0 && isInt(v)
}

// widthOf returns the width of a bit vector, or 0 if there is no such width.
func widthOf(v api.Value) int {
	if width, e := num.ToInt(v.Text); e == api.OK && width >= 1 && width <= maxWidth {
		return width
	}
	return 0
}

func isPaired(v api.Value) bool {
	return len(v.Items)%2 == 0
}

func isObject(v api.Value) bool {
	n, e := num.ToInt(v.Num)
	return e == api.OK && n >= 0 && n <= maxObject
}

// isConstructor reports whether the Text is one word, or two with colons in between.
func isConstructor(v api.Value) bool {
	words := strings.Split(v.Text, "::")
	for _, word := range words {
		if !isWord(word) || len(word) > api.MaxName || !isLetter(rune(word[0])) {
			return false
		}
	}
	return len(words) <= 2
}

// isWord reports whether a string is letters, digits and underscores.
func isWord(s string) bool {
	for _, c := range s {
		if !isWordPart(c) {
			return false
		}
	}
	return s != ""
}

func isLetter(c rune) bool {
	return 'a' <= c && c <= 'z' || 'A' <= c && c <= 'Z'
}

func isDigit(c rune) bool {
	return '0' <= c && c <= '9'
}

func isWordPart(c rune) bool {
	return isLetter(c) || isDigit(c) || c == '_'
}

// checker visits values and counts them.
type checker struct {
	kinds [api.Kinds]kind
	count int
}

// visit returns the error of a value and of all that is in it.
func (c *checker) visit(p placed) api.Errno {
	c.count++
	switch {
	case c.count > api.MaxNodes:
		return api.ErrLarge
	case p.level > api.MaxDepth:
		return api.ErrDeep
	case p.Kind < 0 || p.Kind >= api.Kinds:
		return api.ErrKind
	}
	k := &c.kinds[p.Kind]
	if e := k.check(p.Value); e != api.OK {
		return e
	}
	for _, item := range p.Items {
		if e := c.visit(placed{item, p.level + 1}); e != api.OK {
			return e
		}
	}
	if !k.isOrdered(p.Items) {
		return api.ErrOrder
	}
	return api.OK
}

// check returns the error of a value of a kind, but for those of its Items.
func (k *kind) check(v api.Value) api.Errno {
	switch {
	case !k.num && v.Num != "" || !k.text && v.Text != "" || !k.items && len(v.Items) > 0:
		return api.ErrForm
	case len(v.Items) > maxItems(v.Kind):
		return api.ErrMany
	case k.form != nil && !k.form(v):
		return api.ErrForm
	case v.Kind == api.VBits && !isInRange(v.Num, widthOf(v)):
		return api.ErrRange
	}
	return api.OK
}

// maxItems returns how many Items a value of a kind may have.
func maxItems(kind int) int {
	if kind == api.VMap {
		return 2 * api.MaxItems
	}
	return api.MaxItems
}

// isInRange reports whether an integer is a bit vector of a width.
func isInRange(n string, width int) bool {
	_, e := num.Bits(num.BitOr, width, n, n)
	return e == api.OK
}

// isOrdered reports whether Items that are well-formed are in the order of the kind.
func (k *kind) isOrdered(items []api.Value) bool {
	if k.step == 0 {
		return true
	}
	for i := k.step; i < len(items); i += k.step {
		order := element{items[i-k.step]}.compare(element{items[i]})
		if order > 0 || order == 0 && k.strict {
			return false
		}
	}
	return true
}
