package value

import (
	"strings"

	"entail/api"
)

// Text returns the string of a value.
func Text(v api.Value) (string, api.Errno) {
	if e := Check(v); e != api.OK {
		return "", e
	}
	return text(v), api.OK
}

// text returns the string of a value that was checked.
func text(v api.Value) string {
	var out strings.Builder
	write(&out, v)
	return out.String()
}

func write(out *strings.Builder, v api.Value) {
	switch v.Kind {
	case api.VBool:
		out.WriteString(map[string]string{"0": "false", "1": "true"}[v.Num])
	case api.VBits:
		out.WriteString(v.Num + "bv" + v.Text)
	case api.VRef:
		out.WriteString("#" + v.Num)
	case api.VInt, api.VReal:
		out.WriteString(v.Num)
	default:
		b := bracketsOf(v)
		out.WriteString(b.open)
		for i, item := range v.Items {
			if i > 0 {
				out.WriteString(b.between(i))
			}
			write(out, item)
		}
		out.WriteString(b.end)
	}
}

// brackets are what stands around the Items of a value.
type brackets struct {
	open, end string
	pairs     bool // keys and values by turns
}

// bracketsOf returns the brackets of a value with Items.
func bracketsOf(v api.Value) brackets {
	switch v.Kind {
	case api.VSeq:
		return brackets{"[", "]", false}
	case api.VSet:
		return brackets{"{", "}", false}
	case api.VMulti:
		return brackets{"multiset{", "}", false}
	case api.VMap:
		return brackets{"map[", "]", true}
	}
	return brackets{v.Text + "(", ")", false}
}

// between returns what stands in front of an Item that is not the first one.
func (b brackets) between(i int) string {
	if b.pairs && i%2 == 1 {
		return " := "
	}
	return ", "
}

// ParseText returns the value of a string, or the offset of the first error.
func ParseText(s string) (api.Value, int, api.Errno) {
	if len(s) > api.MaxText {
		return api.Value{}, 0, api.ErrLong
	}
	r := reader{text: s}
	v, read := r.value(1)
	if !read || r.at < len(s) {
		return api.Value{}, r.at, api.ErrSyntax
	}
	if e := Check(v); e != api.OK {
		return api.Value{}, 0, e
	}
	return v, 0, api.OK
}

// reader stands at a byte of a text. Where something cannot be read it stops at the byte that is wrong.
type reader struct {
	text string
	at   int
}

// sees reports whether the next byte is of some form.
func (r *reader) sees(form func(rune) bool) bool {
	return r.at < len(r.text) && form(rune(r.text[r.at]))
}

// accept takes a byte if it is there.
func (r *reader) accept(c byte) bool {
	if r.at == len(r.text) || r.text[r.at] != c {
		return false
	}
	r.at++
	return true
}

// expect takes some bytes, as far as they are there, and reports whether all of them are.
func (r *reader) expect(s string) bool {
	for i := range len(s) {
		if !r.accept(s[i]) {
			return false
		}
	}
	return true
}

// run takes the bytes that are of some form.
func (r *reader) run(form func(rune) bool) string {
	size := 0
	for at, c := range r.text[r.at:] {
		if !form(c) {
			break
		}
		size = at + 1
	}
	out := r.text[r.at : r.at+size]
	r.at += size
	return out
}

// value reads a value at a level, and reports whether there is one.
func (r *reader) value(level int) (api.Value, bool) {
	switch {
	case level > 2*api.MaxDepth:
		return api.Value{}, false
	case r.sees(isLetter):
		return r.word(level)
	case r.accept('['):
		return r.items(api.Value{Kind: api.VSeq}, level)
	case r.accept('{'):
		return r.items(api.Value{Kind: api.VSet}, level)
	case r.accept('#'):
		digits := r.run(isDigit)
		return api.Value{Kind: api.VRef, Num: digits}, digits != ""
	}
	return r.number()
}

// number reads an integer, a fraction or a bit vector.
func (r *reader) number() (api.Value, bool) {
	from := r.at
	negative := r.accept('-')
	if r.run(isDigit) == "" {
		return api.Value{}, false
	}
	out := api.Value{Kind: api.VInt, Num: r.text[from:r.at]}
	switch {
	case r.accept('/'):
		digits := r.run(isDigit)
		return api.Value{Kind: api.VReal, Num: out.Num + "/" + digits}, digits != ""
	case !negative && r.accept('b'):
		read := r.expect("v")
		digits := ""
		if read {
			digits = r.run(isDigit)
		}
		return api.Value{Kind: api.VBits, Num: out.Num, Text: digits}, digits != ""
	}
	return out, true
}

// word reads a value that begins with a letter.
func (r *reader) word(level int) (api.Value, bool) {
	word := r.run(isWordPart)
	switch {
	case r.accept('('):
		return r.items(api.Value{Kind: api.VCons, Text: word}, level)
	case r.accept(':'):
		return r.qualified(word, level)
	case word == "true":
		return ofBool(true), true
	case word == "false":
		return ofBool(false), true
	case word == "multiset" && r.accept('{'):
		return r.items(api.Value{Kind: api.VMulti}, level)
	case word == "map" && r.accept('['):
		return r.items(api.Value{Kind: api.VMap}, level)
	}
	return api.Value{}, false
}

// qualified reads what follows the first colon of a constructor's name.
func (r *reader) qualified(module string, level int) (api.Value, bool) {
	if !r.accept(':') {
		return api.Value{}, false
	}
	name := r.run(isWordPart)
	if name == "" || !r.accept('(') {
		return api.Value{}, false
	}
	return r.items(api.Value{Kind: api.VCons, Text: module + "::" + name}, level)
}

// items reads the Items of a value and its closing bracket.
func (r *reader) items(v api.Value, level int) (api.Value, bool) {
	b := bracketsOf(v)
	if r.expect(b.end) {
		return v, true
	}
	for {
		item, read := r.value(level + 1)
		if !read {
			return api.Value{}, false
		}
		v.Items = append(v.Items, item)
		next := b.between(len(v.Items))
		if next == ", " && r.expect(b.end) {
			return v, true
		}
		if !r.expect(next) {
			return api.Value{}, false
		}
	}
}
