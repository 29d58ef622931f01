package types

import (
	"slices"
	"strings"

	"entail/api"
)

// builtin is a type that need not be declared. The width of a bit vector is a part of its head.
type builtin struct {
	head  string
	op    int
	width string
	value func(builtin) api.Tree // the default expression; nil if there is no default value
}

// builtins returns the types that need not be declared.
func builtins() []builtin {
	return []builtin{
		{"bool", api.TBool, "", func(builtin) api.Tree { return leaf(api.EBool, "false") }},
		{"int", api.TInt, "", func(builtin) api.Tree { return leaf(api.EInt, "0") }},
		{"real", api.TReal, "", func(builtin) api.Tree { return leaf(api.EReal, "0.0") }},
		{bitsHead, api.TBits, "", builtin.zero},
		{"seq", api.TSeq, "", func(builtin) api.Tree { return leaf(api.ESeq, "") }},
		{"set", api.TSet, "", func(builtin) api.Tree { return leaf(api.ESet, "") }},
		{"multiset", api.TMulti, "", func(builtin) api.Tree { return leaf(api.EMulti, "") }},
		{"map", api.TMap, "", func(builtin) api.Tree { return leaf(api.EMap, "") }},
		{"array", api.TArray, "", nil},
	}
}

// bitsHead is what the types of bit vectors begin with.
const bitsHead = "bv"

// builtinOf returns the type with a head that need not be declared. (Names of declared types begin with an upper-case letter.)
func builtinOf(head string) (builtin, bool) {
	width, isBits := strings.CutPrefix(head, bitsHead)
	if isBits {
		head = bitsHead
	}
	table := builtins()
	i := slices.IndexFunc(table, func(b builtin) bool { return b.head == head })
	if i < 0 {
		return builtin{}, false
	}
	out := table[i]
	if isBits {
		out.width = width
	}
	return out, true
}

// leaf returns a tree of one node.
func leaf(op int, text string) api.Tree {
	return api.Tree{{Op: op, Text: text}}
}

// zero returns the default expression of a type of bit vectors.
func (b builtin) zero() api.Tree {
	return api.Tree{{Op: api.EInt, Text: "0"}, {Op: api.TBits, Text: b.width}, {Op: api.EAs, Kids: []int{0, 1}}}
}
