package term

import (
	"slices"
	"strconv"
	"strings"
	"testing"

	"entail/api"
)

// TestParts is for P9.1: sorts, and what they are built from.
func TestParts(t *testing.T) {
	sig := example()
	sig.Sorts = append(sig.Sorts, "Seq<Int>", "A<B,C>", "Map", "a>b<c", "Real>")
	sig.Sorts = sig.Sorts[:4] // those without balanced brackets are no names
	for s, want := range map[string][]string{
		"Bool": {"Bool"}, "Int": {"Int"}, "Real": {"Real"}, "E": {"Sort"}, "L": {"Data"}, "Map": {"Sort"},
		"Seq<E>": {"Seq", "E"}, "Set<L>": {"Set", "L"}, "Map<E,L>": {"Map", "E", "L"}, "Map<Seq<E>,Set<L>>": {"Map", "Seq<E>", "Set<L>"},
		"Seq<Map<Bool,Map<E,Real>>>": {"Seq", "Map<Bool,Map<E,Real>>"}, "Map<Map<E,E>,Map<E,E>>": {"Map", "Map<E,E>", "Map<E,E>"},
		"Seq<Int>": {"Sort"}, "A<B,C>": {"Sort"}, "Seq<Seq<Int>>": {"Seq", "Seq<Int>"}, "Map<A<B,C>,E>": {"Map", "A<B,C>", "E"}, "Set<Map>": {"Set", "Map"},
	} {
		kind, parts, e := Parts(sig, s)
		if kind != want[0] || !slices.Equal(parts, want[1:]) || e != api.OK {
			t.Errorf("Parts(%q): %q, %q, %d, want %q", s, kind, parts, e, want)
		}
	}
	for _, s := range []string{"", "F", "bool", "Seq", "Seq<>", "Seq<F>", "Seq<E", "Seq<E>>", "Seq< E>", "Seq<E,E>", "Set<E,E>", "Map<E>", "Map<E,E,E>", "Map<E,>", "Map<,E>", "Map<E, E>", "E<E>", "A<B>", "B", "Seq<A<B>>", "a>b<c", "Map<Seq<E,E>>", "Multi<E>", "seq<E>", "Seq<E>x", "xSeq<E>"} {
		if kind, parts, e := Parts(sig, s); kind != "" || len(parts) > 0 || e != api.ErrSort {
			t.Errorf("Parts(%q): %q, %q, %d", s, kind, parts, e)
		}
	}
	nested := func(n int) string { return strings.Repeat("Seq<", n) + "Bool" + strings.Repeat(">", n) }
	if _, _, e := Parts(sig, nested(79)); e != api.OK { // 399 bytes
		t.Errorf("a sort of 399 bytes: %d", e)
	}
	if _, _, e := Parts(sig, "Map<E,"+nested(77)+">"); e != api.OK || len("Map<E,"+nested(77)+">") > 400 {
		t.Errorf("a long sort: %d", e)
	}
	if _, _, e := Parts(sig, nested(80)); e != api.ErrSort { // 404 bytes
		t.Errorf("a sort of 404 bytes: %d", e)
	}
	of := func(length int) string { return strings.Repeat("a", length) }
	sig = api.Signature{Sorts: []string{of(190), of(197), of(198), of(199)}}
	for s, want := range map[string]api.Errno{"Map<" + of(197) + "," + of(197) + ">": api.OK, "Map<" + of(197) + "," + of(198) + ">": api.ErrSort, "Seq<Map<" + of(190) + "," + of(199) + ">>": api.OK, "Seq<Map<" + of(197) + "," + of(197) + ">>": api.ErrSort} {
		if _, _, e := Parts(sig, s); e != want {
			t.Errorf("a sort of %d bytes: %d, want %d", len(s), e, want)
		}
	}
}

// TestFunction is for P9.1: all functions of a signature.
func TestFunction(t *testing.T) {
	sig := example()
	for name, want := range map[string]string{
		"c": "to E", "f": "E to E", "g": "Int E to Int", "nil": "to L", "cons": "E L to L", "head": "L to E", "tail": "L to L", "is$nil": "L to Bool", "is$cons": "L to Bool",
		"div$Int": "Int Int to Int", "mod$Int": "Int Int to Int", "floor$Real": "Real to Int", "real$Int": "Int to Real",
		"select$Map<E,L>": "Map<E,L> E to L", "store$Map<E,L>": "Map<E,L> E L to Map<E,L>", "const$Map<E,L>": "L to Map<E,L>", "diff$Map<E,L>": "Map<E,L> Map<E,L> to E",
		"len$Seq<E>": "Seq<E> to Int", "at$Seq<E>": "Seq<E> Int to E", "empty$Seq<E>": "to Seq<E>", "one$Seq<E>": "E to Seq<E>", "cat$Seq<E>": "Seq<E> Seq<E> to Seq<E>",
		"put$Seq<E>": "Seq<E> Int E to Seq<E>", "cut$Seq<E>": "Seq<E> Int Int to Seq<E>", "pre$Seq<E>": "Seq<E> Seq<E> to Bool", "diff$Seq<E>": "Seq<E> Seq<E> to Int",
		"has$Set<E>": "Set<E> E to Bool", "empty$Set<E>": "to Set<E>", "one$Set<E>": "E to Set<E>", "join$Set<E>": "Set<E> Set<E> to Set<E>", "meet$Set<E>": "Set<E> Set<E> to Set<E>",
		"less$Set<E>": "Set<E> Set<E> to Set<E>", "sub$Set<E>": "Set<E> Set<E> to Bool", "size$Set<E>": "Set<E> to Int", "diff$Set<E>": "Set<E> Set<E> to E",
		"at$Seq<Map<Int,Set<E>>>": "Seq<Map<Int,Set<E>>> Int to Map<Int,Set<E>>",
	} {
		f, e := Function(sig, name)
		if got := strings.TrimPrefix(strings.Join(f.Args, " ")+" to "+f.Sort, " "); got != want || f.Name != name || e != api.OK {
			t.Errorf("Function(%q): %v, %d, want %s", name, f, e, want)
		}
	}
	for _, name := range []string{"", "d", "E", "L", "is$f", "is$", "is$head", "div$Real", "floor$Int", "real$Real", "select$Seq<E>", "len$Map<E,E>", "size$Seq<E>", "len$Seq<F>", "len$", "$Seq<E>", "len", "div$", "at$Set<E>", "true", "+", "select$E", "div$Bool"} {
		if f, e := Function(sig, name); f.Name != "" || len(f.Args) > 0 || f.Sort != "" || e != api.ErrUnknown {
			t.Errorf("Function(%q): %v, %d", name, f, e)
		}
	}
	// A declared sort has no interpreted functions, whatever its name looks like.
	sig.Sorts = append(sig.Sorts, "Seq<E>")
	if _, e := Function(sig, "len$Seq<E>"); e != api.ErrUnknown {
		t.Errorf("a function of a declared sort: %d", e)
	}
	sig.Funs = append(sig.Funs, api.Fun{Name: "len$Seq<E>", Sort: "Int"})
	if f, e := Function(sig, "len$Seq<E>"); len(f.Args) > 0 || f.Sort != "Int" || e != api.OK {
		t.Errorf("a function with such a name: %v, %d", f, e)
	}
}

// data returns a datatype with constructors that are written as name, then fields with their sorts.
func data(sort string, constructors ...string) api.Datatype {
	d := api.Datatype{Sort: sort}
	for _, c := range constructors {
		words := strings.Fields(c)
		cons := api.Cons{Name: words[0]}
		for i := 1; i < len(words); i += 2 {
			cons.Fields = append(cons.Fields, api.Bound{Name: words[i], Sort: words[i+1]})
		}
		d.Cons = append(d.Cons, cons)
	}
	return d
}

// fun returns a function with the sorts of its arguments and its result.
func fun(name string, sorts ...string) api.Fun {
	return api.Fun{Name: name, Args: sorts[:len(sorts)-1], Sort: sorts[len(sorts)-1]}
}

// numbered returns names with numbers.
func numbered(prefix string, count int) []string {
	var out []string
	for i := range count {
		out = append(out, prefix+strconv.Itoa(i))
	}
	return out
}

// signatures are signatures with their errors.
func signatures() map[string]struct {
	sig  api.Signature
	want api.Errno
} {
	long := strings.Repeat("s", 200)
	type row = struct {
		sig  api.Signature
		want api.Errno
	}
	out := map[string]row{}
	add := func(name string, want api.Errno, sorts []string, datas []api.Datatype, funs ...api.Fun) {
		out[name] = row{api.Signature{Sorts: sorts, Datas: datas, Funs: funs}, want}
	}
	add("nothing", api.OK, nil, nil)
	add("100 sorts", api.OK, numbered("S", 100), nil)
	add("101 sorts", api.ErrMany, append(numbered("S", 100), ""), nil)
	for _, name := range []string{"", "Bool", "Int", "Real", "a b", "a\nb", "a(", "a)", "a{", "a}", "<", "a<", "a>", "a><", "a,b", ",", "<a>,b", long + "s"} {
		add("the sort "+name, api.ErrName, []string{"E", name}, nil)
		add("the datatype "+name, api.ErrName, nil, []api.Datatype{data(name, "mk")})
	}
	for _, name := range []string{"bool", "seq", "-", "1", "?x", "=", "a<b>", "<>", "<,>", "a<b,c<d>>e", "Seq<Int>", "\t", "\xff", long} {
		add("the sort "+name, api.OK, []string{"E", name}, nil, fun("f", name, name))
		add("the datatype "+name, api.OK, nil, []api.Datatype{data(name, "mk")}, fun("f", name, name))
	}
	add("a sort twice", api.ErrTwice, []string{"E", "E"}, nil)
	add("a sort and a datatype", api.ErrTwice, []string{"E"}, []api.Datatype{data("E", "mk")})
	add("a datatype twice", api.ErrTwice, nil, []api.Datatype{data("D", "mk"), data("D", "mk")})
	add("names before constructors", api.ErrName, nil, []api.Datatype{data("D"), data("")})
	add("sorts before datatypes", api.ErrTwice, []string{"E", "E"}, []api.Datatype{data("")})
	// datatypes
	add("no constructor", api.ErrEmpty, nil, []api.Datatype{data("D")})
	add("20 constructors", api.OK, nil, []api.Datatype{data("D", numbered("k", 20)...)})
	add("21 constructors", api.ErrMany, nil, []api.Datatype{data("D", append(numbered("k", 20), "k0")...)})
	add("20 fields", api.OK, nil, []api.Datatype{data("D", "mk "+strings.Join(numbered("a", 20), " Int ")+" Int")})
	add("21 fields", api.ErrMany, nil, []api.Datatype{data("D", "true "+strings.Join(numbered("a", 21), " Int ")+" Int")})
	for _, name := range []string{"true", "false", "not", "and", "or", "iff", "ite", "forall", "exists", "+", "*", "<", "<=", "-", "=", "=>", "!", "!a", "?a", "0", "9a", "-a", "=a", "a{", "a}", long + "s", "div$Int", "mod$Int", "floor$Real", "real$Int", "len$Seq<D>", "select$Map<Int,D>", "has$Set<Set<D>>"} {
		add("the constructor "+name, api.ErrName, nil, []api.Datatype{data("D", name)})
		add("the field "+name, api.ErrName, nil, []api.Datatype{data("D", "mk "+name+" F")})
		add("the function "+name, api.ErrName, nil, []api.Datatype{data("D", "mk")}, api.Fun{Name: name, Sort: "F"})
	}
	for _, name := range []string{"", "a b", "a\nb", "a(", "a)"} {
		add("the function "+name, api.ErrName, nil, nil, api.Fun{Name: name, Sort: "F"})
	}
	for _, name := range []string{"a!", "a-", "/", ">", ">=", "True", "D", "Int", "len$Seq<F>", "div$Real", "len$Seq", "div", "a?", "a=b", "\t", "\xff", "é", long} {
		add("the function "+name, api.OK, nil, []api.Datatype{data("D", "mk")}, api.Fun{Name: name, Sort: "D"})
	}
	add("a constructor twice", api.ErrTwice, nil, []api.Datatype{data("D", "mk", "mk")})
	add("a constructor of two datatypes", api.ErrTwice, nil, []api.Datatype{data("D", "mk"), data("C", "mk")})
	add("a field like its constructor", api.ErrTwice, nil, []api.Datatype{data("D", "mk mk Int")})
	add("a field twice", api.ErrTwice, nil, []api.Datatype{data("D", "mk a Int a Int")})
	add("a field of two datatypes", api.ErrTwice, nil, []api.Datatype{data("D", "mk a Int"), data("C", "nk a Int")})
	add("a constructor like a field", api.ErrTwice, nil, []api.Datatype{data("D", "mk a Int", "a")})
	add("a field's sort", api.ErrSort, nil, []api.Datatype{data("D", "mk a F")})
	add("a field's name before its sort", api.ErrTwice, nil, []api.Datatype{data("D", "mk a Int a F")})
	add("a field's sort before the next one's name", api.ErrSort, nil, []api.Datatype{data("D", "mk a F a Int")})
	add("a field of a later datatype", api.OK, nil, []api.Datatype{data("D", "mk a C"), data("C", "nk")})
	add("a test like a constructor", api.ErrTwice, nil, []api.Datatype{data("D", "mk", "is$mk")})
	add("a test like a field", api.ErrTwice, nil, []api.Datatype{data("D", "mk is$nk Int"), data("C", "nk")})
	add("a test of no constructor", api.OK, nil, []api.Datatype{data("D", "mk is$a Int")}, fun("is$b", "D", "Bool"))
	add("a sort before a test", api.ErrSort, nil, []api.Datatype{data("D", "mk", "is$mk a F")})
	// functions
	add("a function twice", api.ErrTwice, nil, nil, fun("f", "Int"), fun("f", "Int"))
	add("a function like a constructor", api.ErrTwice, nil, []api.Datatype{data("D", "mk")}, fun("mk", "F"))
	add("a function like a field", api.ErrTwice, nil, []api.Datatype{data("D", "mk a Int")}, fun("a", "F"))
	add("a function like a test", api.ErrTwice, nil, []api.Datatype{data("D", "mk")}, fun("is$mk", "F"))
	args := strings.Fields(strings.Repeat("Int ", 21))
	add("20 arguments", api.OK, nil, nil, fun("f", args...))
	add("21 arguments", api.ErrMany, nil, nil, fun("f", append(args, "F")...))
	add("an argument's sort", api.ErrSort, nil, nil, fun("f", "F", "Int"))
	add("a result's sort", api.ErrSort, nil, nil, fun("f", "Int", "F"))
	add("the first function with an error", api.ErrSort, nil, nil, fun("f", "F"), fun("f", "Int"))
	// cycles
	add("more", api.ErrCycle, nil, []api.Datatype{data("D", "more rest D")})
	add("two without an end", api.ErrCycle, nil, []api.Datatype{data("D", "a b C"), data("C", "c d D")})
	add("two with an end", api.OK, nil, []api.Datatype{data("D", "a b C"), data("C", "c d D", "e")})
	add("through a sequence", api.OK, nil, []api.Datatype{data("D", "a b Seq<D>")})
	add("through a set", api.OK, nil, []api.Datatype{data("D", "a b Set<Set<D>>")})
	add("through the values of a map", api.ErrCycle, nil, []api.Datatype{data("D", "a b Map<Int,D>")})
	add("through the values of maps", api.ErrCycle, nil, []api.Datatype{data("D", "a b Map<Int,Map<Int,D>>")})
	add("through a map with an end", api.OK, nil, []api.Datatype{data("D", "a b Map<Int,D>", "c")})
	add("through the keys of a map", api.ErrCycle, nil, []api.Datatype{data("D", "a b Map<D,Int>", "c")})
	add("through a sequence in a key", api.ErrCycle, nil, []api.Datatype{data("D", "a b Map<Seq<D>,Int>")})
	add("through a map in a value", api.ErrCycle, nil, []api.Datatype{data("D", "a b Map<Int,Seq<Map<D,Int>>>")})
	add("through the keys of another one", api.ErrCycle, nil, []api.Datatype{data("D", "a b C", "e"), data("C", "c d Map<D,Int>")})
	add("through a key that reaches it", api.ErrCycle, nil, []api.Datatype{data("D", "a b Map<C,Int>", "e"), data("C", "c d Seq<D>")})
	add("through a key that reaches it by way of others", api.ErrCycle, nil, []api.Datatype{data("D", "a b Map<C,Int>", "e"), data("A", "g h Seq<D>"), data("C", "c d Seq<B>"), data("B", "i j Seq<A>")})
	add("through others to a key", api.ErrCycle, nil, []api.Datatype{data("D", "a b Seq<C>"), data("C", "c d Seq<B>"), data("B", "i j Map<D,Int>", "e")})
	add("a key that others reach", api.OK, nil, []api.Datatype{data("D", "a b Map<C,Int>", "e"), data("A", "g h Seq<D>"), data("C", "c d Seq<B>"), data("B", "i j Seq<C>")})
	add("keys of another one", api.OK, nil, []api.Datatype{data("D", "a b Map<C,D>", "e"), data("C", "c d Seq<C>")})
	add("a key beside", api.OK, nil, []api.Datatype{data("D", "a b Map<C,Int>", "e"), data("C", "c", "d")})
	add("functions before cycles", api.ErrSort, nil, []api.Datatype{data("D", "more rest D")}, fun("f", "F"))
	return out
}

// TestCheckSignature is for P9.1: the first error of a signature.
func TestCheckSignature(t *testing.T) {
	for name, c := range signatures() {
		if e := CheckSignature(c.sig); e != c.want {
			t.Errorf("%s: %d, want %d", name, e, c.want)
		}
	}
	many := func(sorts, datas, funs int) api.Signature {
		sig := api.Signature{Sorts: numbered("S", sorts)}
		for i := range datas {
			sig.Datas = append(sig.Datas, data("D"+strconv.Itoa(i), "k"+strconv.Itoa(i)))
		}
		for i := range funs {
			sig.Funs = append(sig.Funs, fun("f"+strconv.Itoa(i), "Int"))
		}
		return sig
	}
	for i, c := range []struct {
		sig  api.Signature
		want api.Errno
	}{{many(100, 50, 1000), api.OK}, {many(0, 51, 0), api.ErrMany}, {many(0, 0, 1001), api.ErrMany}} {
		if e := CheckSignature(c.sig); e != c.want {
			t.Errorf("many %d: %d, want %d", i, e, c.want)
		}
	}
}

// TestSignatureFirst is for P9.1, P9.2 and P9.5: the error of the signature comes before all others.
func TestSignatureFirst(t *testing.T) {
	for name, c := range signatures() {
		if c.want == api.OK {
			continue
		}
		_, _, e0 := Parts(c.sig, "?")
		_, e1 := Function(c.sig, "?")
		_, e2 := Check(c.sig, []api.Bound{{}}, nil)
		_, e3 := App(c.sig, "?", nil)
		x, at, e4 := Parse(c.sig, []api.Bound{{}}, "(")
		if e0 != c.want || e1 != c.want || e2 != c.want || e3 != c.want || e4 != c.want || at != 0 || len(x) > 0 {
			t.Errorf("%s: %d, %d, %d, %d, %d at %d, want %d", name, e0, e1, e2, e3, e4, at, c.want)
		}
	}
}
