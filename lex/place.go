package lex

import (
	"strings"

	"entail/api"
	"entail/common"
)

// Position returns the line and the column of a byte offset, both from 1 on.
func Position(s string, at int) (int, int, api.Errno) {
	switch {
	case len(s) > api.MaxText:
		return 0, 0, api.ErrLong
	case at < 0 || at > len(s):
		return 0, 0, api.ErrRange
	}
	line, column := 1, 1
	for i := range at {
		column++
		if s[i] == '\n' {
			line, column = line+1, 1
		}
	}
	return line, column, api.OK
}

// Offset returns the byte offset of a line and a column.
func Offset(s string, line, column int) (int, api.Errno) {
	if len(s) > api.MaxText {
		return 0, api.ErrLong
	}
	sizes := common.Transform(strings.Split(s, "\n"), func(line string) int { return len(line) + 1 })
	if line < 1 || line > len(sizes) || column < 1 || column > sizes[line-1] {
		return 0, api.ErrRange
	}
	at := column - 1
	for _, size := range sizes[:line-1] {
		at += size
	}
	return at, api.OK
}
