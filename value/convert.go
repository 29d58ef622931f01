package value

import (
	"strings"

	"entail/api"
	"entail/common"
	"entail/num"
)

// Convert returns a value as a value of another numeric type.
func Convert(v api.Value, typ string) (api.Value, api.Errno) {
	if e := Check(v); e != api.OK {
		return api.Value{}, e
	}
	to, found := sortNamed(typ)
	switch {
	case v.Kind == api.VBool && typ == "bool", found && sortOf(v) == to:
		return common.Clone(v), api.OK
	case !found:
		return api.Value{}, api.ErrType
	}
	n, e := whole(v)
	if e != api.OK {
		return api.Value{}, e
	}
	return to.make(n)
}

// sortNamed returns the numbers of a type.
func sortNamed(typ string) (sort, bool) {
	switch typ {
	case "int":
		return sort{kind: api.VInt}, true
	case "real":
		return sort{kind: api.VReal}, true
	}
	width, found := strings.CutPrefix(typ, "bv")
	return sort{api.VBits, width}, found && widthOf(api.Value{Text: width}) > 0
}

// whole returns the integer that is the number of a value.
func whole(v api.Value) (string, api.Errno) {
	switch v.Kind {
	case api.VInt, api.VBits:
		return v.Num, api.OK
	case api.VReal:
		top, bottom, e := num.Parts(v.Num)
		if bottom != "1" {
			return "", api.ErrRange
		}
		return top, e
	}
	return "", api.ErrKind
}

// make returns an integer as a value of a sort.
func (s sort) make(n string) (api.Value, api.Errno) {
	out := api.Value{Kind: s.kind, Num: n, Text: s.width}
	switch {
	case s.kind == api.VReal:
		out.Num = n + "/1"
	case s.kind == api.VBits && !isInRange(n, widthOf(out)):
		return api.Value{}, api.ErrRange
	}
	return out, api.OK
}
