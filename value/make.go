package value

import (
	"strconv"

	"entail/api"
)

// ofBool returns a bool as a value.
func ofBool(is bool) api.Value {
	if is {
		return api.Value{Kind: api.VBool, Num: "1"}
	}
	return api.Value{Kind: api.VBool, Num: "0"}
}

// ofInt returns a number as a value.
func ofInt(n int) api.Value {
	return api.Value{Kind: api.VInt, Num: strconv.Itoa(n)}
}

// allOnes returns the greatest bit vector of a width.
func allOnes(s sort, width int) api.Value {
	return api.Value{Kind: s.kind, Num: strconv.FormatUint(^uint64(0)>>(maxWidth-width), 10), Text: s.width}
}
