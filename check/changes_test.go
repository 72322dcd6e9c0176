package check_test

import (
	"strings"
	"testing"

	"promptbook/api"
	"promptbook/check"
	"promptbook/script"
)

func TestTrimmed(t *testing.T) { // P2.6
	for _, c := range []struct{ what, text, want string }{
		{"nothing", "main { }", "main { }"},
		{"not called", "proc q(x) { } proc p(x) { q(x); } proc r(x) { x.v := 1; } main { r(a); }", "proc r(x) { x.v := 1; } main { r(a); }"},
		{"in order", "proc r(x) { } proc n(x) { r(x); } proc q(x) { r(x); } proc p(x) { q(x); } main { p(a); }", "proc r(x) { } proc q(x) { r(x); } proc p(x) { q(x); } main { p(a); }"},
		{"behind an endless one", "proc p(x) { p(x); x.v := 1; } main { a.v := 1; p(a); a.v := 2; a.v := 3; }", "proc p(x) { p(x); } main { a.v := 1; p(a); }"},
		{"in branches", "proc p(x) { p(x); } main { if a.1 { p(a); a.v := 1; } else { a.v := 2; } a.v := 3; }", "proc p(x) { p(x); } main { if a.1 { p(a); } else { a.v := 2; } a.v := 3; }"},
		{"with what is within", "proc p(x) { p(x); } main { p(a); if a.1 { a.v := 1; } else { a.v := 2; } }", "proc p(x) { p(x); } main { p(a); }"},
		{"called behind an endless one", "proc q(x) { } proc p(x) { p(x); } main { p(a); q(a); }", "proc p(x) { p(x); } main { p(a); }"},
		{"values do not count", "proc p(x) { } main { if a.0 { p(a); } else { } }", "proc p(x) { } main { if a.0 { p(a); } else { } }"},
	} {
		p, err := check.Trimmed(read(t, c.text))
		same(t, c.what, []any{words(t, p), err}, []any{c.want, api.OK})
	}
}

func TestInlined(t *testing.T) { // P2.6
	for _, c := range []struct{ what, text, want string }{
		{"nothing", "main { }", "main { }"},
		{"no call", "proc p(x) { x.v := 1; } main { a.v := 2; }", "main { a.v := 2; }"},
		{"all kinds", "proc p(x, y) { x.y -> y.x; x -> y [x]; x.x := x; if y.y { x.v := 1; } else { y.v := 2; } } main { p(a, b); }",
			"main { a.y -> b.x; a -> b [x]; a.x := x; if b.y { a.v := 1; } else { b.v := 2; } }"},
		{"an empty one", "proc p(x) { } main { p(a); a.v := 1; p(b); }", "main { a.v := 1; }"},
		{"each call", "proc p(x) { x.v := 1; x.v := 2; } main { p(a); p(b); }", "main { a.v := 1; a.v := 2; b.v := 1; b.v := 2; }"},
		{"in branches", "proc p(x) { x.v := 1; } main { if a.1 { p(b); } else { p(c); } p(d); }", "main { if a.1 { b.v := 1; } else { c.v := 1; } d.v := 1; }"},
		{"all at once", "proc p(a, b) { a -> b [l]; } main { p(b, a); }", "main { b -> a [l]; }"},
		{"likewise", "proc q(x, y) { x -> y [l]; } proc p(y, x) { q(y, x); q(x, y); } main { p(a, b); }", "main { a -> b [l]; b -> a [l]; }"},
		{"later procedures", "proc p(y, x) { q(y, x); } proc q(x, y) { r(y); } proc r(y) { y.v := 1; } main { p(a, b); }", "main { b.v := 1; }"},
		{"rings stay", "proc p(x) { p(x); } main { p(a); }", "proc p(x) { p(x); } main { p(a); }"},
		{"rings that are not called stay", "proc q(x) { r(x); } proc p(x) { } proc r(x) { q(x); } main { }", "proc q(x) { r(x); } proc r(x) { q(x); } main { }"},
		{"within rings", "proc q(x, y) { x.v := 1; p(y, x); } proc p(x, y) { r(y); p(y, x); } proc r(y) { y.v := 2; } main { q(a, b); }",
			"proc p(x, y) { y.v := 2; p(y, x); } main { a.v := 1; p(b, a); }"},
		{"Args of rings", "proc q(x, y, z) { p(z, y); } proc p(x, y) { p(y, x); } main { q(a, b, c); }", "proc p(x, y) { p(y, x); } main { p(c, b); }"},
	} {
		p, err := check.Inlined(read(t, c.text))
		same(t, c.what, []any{words(t, p), err}, []any{c.want, api.OK})
	}
}

// sets are n steps of a role.
func sets(n int, role string) string {
	return strings.Repeat(role+".v := 1;", n)
}

func TestInlinedIsFull(t *testing.T) { // P2.6
	deepest := func(n int, s string) string {
		return strings.Repeat("if x.1 {", n) + s + strings.Repeat("} else { }", n)
	}
	ring := "proc ring(x) { p(x); p(x); ring(x); }"
	for _, c := range []struct {
		what, text string
		want       api.Errno
		steps      int
	}{
		{"MaxSteps", "proc p(x) {" + sets(20, "x") + "} main {" + strings.Repeat("p(a);", 100) + "}", api.OK, 2000},
		{"one more", "proc p(x) {" + sets(20, "x") + "} main {" + strings.Repeat("p(a);", 100) + "a.v := 1; }", api.ErrFull, 0},
		{"in a ring", "proc p(x) {" + sets(600, "x") + "}" + ring + "main {" + sets(799, "a") + "}", api.OK, 2000},
		{"one more in a ring", ring + "proc p(x) {" + sets(600, "x") + "} main {" + sets(798, "a") + "ring(a); b.v := 1; }", api.ErrFull, 0},
		{"a procedure that is left out does not count", "proc p(x) {" + sets(900, "x") + "} proc q(x) { p(x); p(x); p(x); } main { p(a); p(b); }", api.OK, 1800},
		{"steps within steps", "proc p(x) { if x.1 {" + sets(999, "x") + "} else { " + sets(500, "x") + "} } main { if a.1 { p(a); } else { p(a); } }", api.ErrFull, 0},
		{"MaxDepth", "proc p(x) {" + deepest(10, sets(1, "x")) + "} proc q(x) {" + deepest(9, "p(x);") + "} main { q(a); }", api.OK, 20},
		{"deeper", "proc p(x) {" + deepest(10, sets(1, "x")) + "} proc q(x) {" + deepest(10, "p(x);") + "} main { q(a); }", api.ErrLarge, 0},
		{"deeper in a ring", "proc p(x) {" + deepest(10, sets(1, "x")) + "} proc q(x) {" + deepest(10, "p(x);") + " q(x); } main { }", api.ErrLarge, 0},
		{"full before deeper", "proc p(x) {" + deepest(10, sets(1500, "x")) + "} proc q(x) {" + deepest(10, "p(x); p(x);") + "} main { q(a); }", api.ErrFull, 0},
		{"deeper, but left out", "proc p(x) {" + deepest(10, sets(1, "x")) + "} proc q(x) {" + deepest(10, "p(x);") + "} main { p(a); }", api.OK, 11},
	} {
		p, err := check.Inlined(read(t, c.text))
		n, _, _ := script.Count(p)
		same(t, c.what, []any{n, err}, []any{c.steps, c.want})
	}
}

// chain are procedures of which each one calls the next one several times; the last one has a body of its own.
func chain(length, times int, body string) string {
	var b strings.Builder
	names := manyNames(length)
	for i, key := range names {
		b.WriteString("proc " + key + "(x) {")
		if i+1 < length {
			b.WriteString(strings.Repeat(names[i+1]+"(x);", times))
		} else {
			b.WriteString(body)
		}
		b.WriteString("}")
	}
	return b.String()
}

func TestInlinedManyTimes(t *testing.T) { // P2.6, Z1: more calls than can be counted
	for _, c := range []struct {
		what, text string
		want       api.Errno
		steps      int
	}{
		{"nothing", chain(50, 30, "") + "main { n0(a); b.v := 1; }", api.OK, 1},
		{"too much", chain(50, 30, "x.v := 1;") + "main { n0(a); }", api.ErrFull, 0},
		{"too much, but left out", chain(50, 30, "x.v := 1;") + "main { n48(a); }", api.OK, 30},
		{"much", chain(11, 2, "x.v := 1;") + "main { n0(a); }", api.OK, 1024},
		{"long", chain(50, 1, "x.v := 1;") + "main {" + strings.Repeat("n0(a);", 1900) + " }", api.OK, 1900},
	} {
		p, err := check.Inlined(read(t, c.text))
		n, _, _ := script.Count(p)
		same(t, c.what, []any{n, err}, []any{c.steps, c.want})
	}
}

func TestRenamed(t *testing.T) { // P2.6
	const kinds = "proc p(a, b) { a -> b [a]; } main { a.a -> b.a; a -> b [a]; a.b := b; if b.a { a.v := 1; } else { p(b, c); } p(a, d); }"
	const twelve = "main { a.v := 1; b.v := 1; c.v := 1; d.v := 1; e.v := 1; f.v := 1; g.v := 1; h.v := 1; i.v := 1; j.v := 1; k.v := 1; l.v := 1; m.v := 1; }"
	for _, c := range []struct {
		what, text, pairs string
		err               api.Errno
		want              string
	}{
		{"no pairs", kinds, "", api.OK, kinds},
		{"one", kinds, "a e", api.OK, "proc p(a, b) { a -> b [a]; } main { e.a -> b.a; e -> b [a]; e.b := b; if b.a { e.v := 1; } else { p(b, c); } p(e, d); }"},
		{"all at once", kinds, "a b, b c, c a", api.OK, "proc p(a, b) { a -> b [a]; } main { b.a -> c.a; b -> c [a]; b.b := b; if c.a { b.v := 1; } else { p(c, a); } p(b, d); }"},
		{"itself", kinds, "a a", api.OK, kinds},
		{"most", twelve, "a n, b n1, c n2, d n3, e n4, f n5, g n6, h n7, i n8, j n9, k n10, l n11", api.OK, strings.NewReplacer("{ a.", "{ n.", " b.", " n1.", " c.", " n2.", " d.", " n3.", " e.", " n4.", " f.", " n5.", " g.", " n6.", " h.", " n7.", " i.", " n8.", " j.", " n9.", " k.", " n10.", " l.", " n11.").Replace(twelve)},
		{"more", twelve, "a n, b n1, c n2, d n3, e n4, f n5, g n6, h n7, i n8, j n9, k n10, l n11, m n12", api.ErrLarge, ""},
		{"number of pairs first", twelve, "z Z" + strings.Repeat(", z Z", 12), api.ErrLarge, ""},
		{"no role", kinds, "e f", api.ErrName, ""},
		{"no name", kinds, " f", api.ErrName, ""},
		{"no Value", kinds, "a ", api.ErrName, ""},
		{"Value no name", kinds, "a A", api.ErrName, ""},
		{"a word of the grammar", kinds, "a main", api.ErrName, ""},
		{"longest Value", "main { a.v := 1; }", "a " + strings.Repeat("x", api.MaxName), api.OK, "main { " + strings.Repeat("x", api.MaxName) + ".v := 1; }"},
		{"longer Value", kinds, "a " + strings.Repeat("x", api.MaxName+1), api.ErrName, ""},
		{"role of a procedure", "proc p(x) { x.v := 1; } main { p(a); }", "x y", api.ErrName, ""},
		{"role of branches", "main { if a.1 { b.v := 1; } else { c.v := 1; } }", "b d, c e", api.OK, "main { if a.1 { d.v := 1; } else { e.v := 1; } }"},
		{"a variable is no role", "main { a.v := w; }", "v x", api.ErrName, ""},
		{"a label is no role", "main { a -> b [l]; }", "l x", api.ErrName, ""},
		{"a procedure is no role", "proc p(x) { } main { p(a); }", "p x", api.ErrName, ""},
		{"no role at all", "main { }", "a b", api.ErrName, ""},
		{"Name twice", kinds, "a e, a f", api.ErrTwice, ""},
		{"Value twice", kinds, "a e, b e", api.ErrTwice, ""},
		{"not next to each other", kinds, "a e, b f, c e", api.ErrTwice, ""},
		{"Name is a Value", kinds, "a b, b a", api.OK, "proc p(a, b) { a -> b [a]; } main { b.a -> a.a; b -> a [a]; b.b := b; if a.a { b.v := 1; } else { p(a, c); } p(b, d); }"},
		{"pair by pair", kinds, "a e, a f, e f", api.ErrTwice, ""},
		{"ErrName before ErrTwice", kinds, "a e, a E", api.ErrName, ""},
		{"a role is there", kinds, "a b", api.ErrConflict, ""},
		{"a role is there, and renamed later", kinds, "a b, b e", api.OK, "proc p(a, b) { a -> b [a]; } main { b.a -> e.a; b -> e [a]; b.b := b; if e.a { b.v := 1; } else { p(e, c); } p(b, d); }"},
		{"the second one is there", kinds, "a e, b c", api.ErrConflict, ""},
		{"ErrTwice before ErrConflict", kinds, "a b, c b", api.ErrTwice, ""},
		{"ErrName before ErrConflict", kinds, "a b, e f", api.ErrName, ""},
		{"a role of a procedure is there", "proc p(x) { x.v := 1; } main { p(a); }", "a x", api.OK, "proc p(x) { x.v := 1; } main { p(x); }"},
	} {
		var pairs []api.Pair
		if c.pairs != "" {
			for _, s := range strings.Split(c.pairs, ", ") {
				name, value, _ := strings.Cut(s, " ")
				pairs = append(pairs, api.Pair{Name: name, Value: value})
			}
		}
		p, err := check.Renamed(read(t, c.text), pairs)
		same(t, c.what, err, c.err)
		if c.err != api.OK {
			same(t, c.what, p, api.Play{})
		} else {
			same(t, c.what, words(t, p), c.want)
		}
	}
}
