package parse

import (
	"math/rand"
	"testing"

	"entail/api"
	"entail/lex"
	"entail/tree"
)

// TestAnyTexts is for P1 and P4.1 to P4.3: any bytes and any tokens are read to a syntax tree, or have an error with an offset in the text.
func TestAnyTexts(t *testing.T) {
	r := rand.New(rand.NewSource(45))
	parts := append(append(lex.Keywords(), lex.Signs()...), "x", "C", "M::f", "M::C", "_", "1", "1.5", "1.50", "bv8", "03", "$", "\xff", "/*", "//")
	for range 4000 {
		s := ""
		for range r.Intn(12) {
			s += parts[r.Intn(len(parts))] + " "
		}
		for _, c := range starts {
			parsed, at, e := c.parse(s)
			_, wrong := tree.Check(parsed)
			if at < 0 || at > len(s) || e == api.OK && (at != 0 || wrong != api.OK) || e != api.OK && len(parsed) > 0 {
				t.Fatalf("%s of %q: %v, %d, %d", c.start, s, parsed, at, e)
			}
		}
	}
}
