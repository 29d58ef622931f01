package model

import (
	"strconv"
	"strings"

	"entail/api"
	"entail/common"
)

// Print returns the text of a model.
func Print(sig api.Signature, m Model) (string, api.Errno) {
	if e := Check(sig, m); e != api.OK {
		return "", e
	}
	var out strings.Builder
	for _, u := range m.Universes {
		writeLine(&out, "sort", u.Sort, strconv.Itoa(u.Size))
	}
	for _, d := range m.Domains {
		writeLine(&out, append([]string{"domain", d.Sort}, texts(d.Values)...)...)
	}
	for _, t := range m.Tables {
		writeLine(&out, "function", t.Name, text(t.Default))
		for _, e := range t.Entries {
			writeLine(&out, append(append([]string{" "}, texts(e.Args)...), "=", text(e.Result))...)
		}
	}
	if out.Len() > api.MaxText {
		return "", api.ErrLong
	}
	return out.String(), api.OK
}

// writeLine writes words on a line.
func writeLine(out *strings.Builder, words ...string) {
	out.WriteString(strings.Join(words, " ") + "\n")
}

// texts returns the texts of values.
func texts(list []api.Value) []string {
	return common.Transform(list, text)
}

// text returns the text of a value.
func text(v api.Value) string {
	switch v.Kind {
	case api.VBool:
		return strconv.FormatBool(isTrue(v))
	case api.VRef:
		return "_!" + v.Num
	case api.VSeq:
		return "[" + strings.Join(texts(v.Items), " ") + "]"
	case api.VSet:
		return "{" + strings.Join(texts(v.Items), " ") + "}"
	case api.VMap:
		return mapText(v)
	case api.VCons:
		if len(v.Items) == 0 {
			return v.Text
		}
		return "(" + v.Text + " " + strings.Join(texts(v.Items), " ") + ")"
	}
	return v.Num
}

func mapText(m api.Value) string {
	words := []string{text(m.Items[0])}
	for key, v := range entries(m) {
		words = append(words, text(key)+":"+text(v))
	}
	return "<" + strings.Join(words, " ") + ">"
}
