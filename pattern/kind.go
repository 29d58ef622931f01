package pattern

import (
	"strconv"
	"strings"

	"entail/api"
	"entail/instance"
	"entail/num"
	"entail/types"
	"entail/value"
)

// The kinds of heads.
const (
	noHead = iota // of a variable, and of a pattern that matches everything
	ofConstructor
	ofLiteral
)

// head is what a value has at the outside: its constructor, or the text of a number or a bool.
type head struct {
	kind int
	text string
}

// bitsHead is what the types of bit vectors begin with.
const bitsHead = "bv"

// maxListed is the greatest width of bit vectors whose heads are all listed.
const maxListed = 4

// kind is what is known of a base type: the constructors of a datatype (each name once), or the width of a bit vector.
type kind struct {
	typ          string
	constructors []instance.Constructor
	width        int
}

// world is a flat program with what is known of its types.
type world struct {
	tree  api.Tree
	known map[string]*kind
}

// newWorld returns a program and the base of a type in it.
func newWorld(p api.Tree, typ string) (*world, *kind, api.Errno) {
	if e := types.Check(p, typ, nil); e != api.OK {
		return nil, nil, e
	}
	base, e := types.Base(p, typ)
	if e != api.OK {
		return nil, nil, e
	}
	w := &world{p, map[string]*kind{}}
	return w, w.of(base), api.OK
}

// of returns what is known of a base type. An empty type, and one that is not well-formed, has neither constructors nor literals.
func (w *world) of(typ string) *kind {
	if _, found := w.known[typ]; !found {
		k := &kind{typ: typ, width: widthOf(typ)}
		for _, c := range instance.Constructors(w.tree, typ) {
			if _, found := k.constructor(c.Name); !found {
				k.constructors = append(k.constructors, c)
			}
		}
		w.known[typ] = k
	}
	return w.known[typ]
}

// widthOf returns the width of a type of bit vectors, or 0.
func widthOf(typ string) int {
	digits, isBits := strings.CutPrefix(typ, bitsHead)
	if !isBits {
		return 0
	}
	width := 0
	for _, c := range digits {
		width = 10*width + int(c-'0')
	}
	return width
}

// constructor returns the constructor with a name.
func (k *kind) constructor(name string) (instance.Constructor, bool) {
	for _, c := range k.constructors {
		if c.Name == name {
			return c, true
		}
	}
	return instance.Constructor{}, false
}

// parts returns the types of the parts of values with a head.
func (w *world) parts(k *kind, h head) []*kind {
	var out []*kind
	c, _ := k.constructor(h.text)
	for _, field := range c.Fields {
		out = append(out, w.of(field))
	}
	return out
}

// boolean returns the head of a bool, or the error if the type has none.
func (k *kind) boolean(text string) (head, api.Errno) {
	if k.typ != "bool" {
		return head{}, api.ErrType
	}
	return head{ofLiteral, text}, api.OK
}

// number returns the head of a number, or the error if the type has no such one.
func (k *kind) number(n string) (head, api.Errno) {
	v := api.Value{Kind: api.VInt, Num: n}
	switch {
	case k.width > 0:
		if _, e := num.Bits(num.BitOr, k.width, n, n); e != api.OK {
			return head{}, e
		}
		v = api.Value{Kind: api.VBits, Num: n, Text: strconv.Itoa(k.width)}
	case k.typ != "int":
		return head{}, api.ErrType
	}
	text, e := value.Text(v)
	return head{ofLiteral, text}, e
}

// all returns all heads of a type, or none if there are always further ones.
func (k *kind) all() []head {
	var out []head
	for _, c := range k.constructors {
		out = append(out, head{ofConstructor, c.Name})
	}
	if k.typ == "bool" {
		out = append(out, head{ofLiteral, "false"}, head{ofLiteral, "true"})
	}
	if k.width > 0 && k.width <= maxListed {
		for n := range 1 << k.width {
			h, _ := k.number(strconv.Itoa(n))
			out = append(out, h)
		}
	}
	return out
}

// asked returns the heads that are asked where rows have some heads.
func (k *kind) asked(found []head) []head {
	if all := k.all(); len(all) > 0 {
		return all
	}
	has := map[head]bool{}
	for _, h := range found {
		has[h] = true
	}
	for n := range len(found) + 1 {
		h, e := k.number(strconv.Itoa(n))
		if e != api.OK {
			break
		}
		if !has[h] {
			return append([]head{h}, found...)
		}
	}
	return found
}

// complete reports whether some heads are all heads of a type.
func (k *kind) complete(found []head) bool {
	all := k.all()
	return len(all) > 0 && len(found) == len(all)
}
