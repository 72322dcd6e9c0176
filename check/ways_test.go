package check_test

import (
	"fmt"
	"strings"
	"testing"

	"promptbook/api"
	"promptbook/check"
)

func TestEnds(t *testing.T) { // P2.2
	for _, c := range []struct {
		what, text, endless string
		ends                bool
		unreached           []int
		called              string
	}{
		{"nothing", "main { }", "", true, nil, ""},
		{"the example", example, "", true, nil, "p"},
		{"an empty procedure", "proc p(x) { } main { p(a); }", "", true, nil, "p"},
		{"one that is not called", "proc p(x) { x.v := 1; } main { }", "", true, []int{0}, ""},
		{"one that calls itself", "proc p(x) { p(x); } main { }", "p", true, []int{0}, ""},
		{"one that calls itself is called", "proc p(x) { p(x); } main { p(a); }", "p", false, nil, "p"},
		{"two call each other", "proc p(x) { q(x); } proc q(x) { p(x); } main { p(a); }", "p q", false, nil, "p q"},
		{"one of them can stop", "proc p(x) { q(x); } proc q(x) { if x.v { p(x); } else { } } main { p(a); }", "", true, nil, "p q"},
		{"a choice before", "proc p(x) { if x.v { } else { } p(x); } main { p(a); }", "p", false, nil, "p"},
		{"both branches", "proc p(x) { if x.v { p(x); } else { p(x); } } main { p(a); }", "p", false, nil, "p"},
		{"a value does not count", "proc p(x) { p(x); } main { if a.0 { p(a); } else { } a.v := 1; }", "p", true, nil, "p"},
		{"a value does not count", "main { if a.1 { } else { a.v := 1; } }", "", true, nil, ""},
		{"behind it", "proc p(x) { p(x); } main { a.v := 1; p(a); a.v := 2; if a.v { a.v := 3; } else { } }", "p", false, []int{2, 3, 4}, "p"},
		{"behind it in a branch", "proc p(x) { p(x); } main { if a.v { p(a); a.v := 1; } else { a.v := 2; } a.v := 3; }", "p", true, []int{2}, "p"},
		{"behind it in both branches", "proc p(x) { p(x); } main { if a.v { p(a); } else { p(b); } a.v := 3; }", "p", false, []int{3}, "p"},
		{"behind it in a procedure", "proc p(x) { p(x); x.v := 1; } main { p(a); }", "p", false, []int{2}, "p"},
		{"called behind it", "proc p(x) { p(x); } proc q(x) { x.v := 1; } main { p(a); q(a); }", "p", false, []int{1, 3}, "p"},
		{"called in what is not reached", "proc p(x) { q(x); } proc q(x) { x.v := 1; } main { }", "", true, []int{0, 1}, ""},
		{"called by way of others", "proc r(x) { x.v := 1; } proc q(x) { r(x); } proc p(x) { q(x); } main { p(a); }", "", true, nil, "r q p"},
		{"reached, though Main cannot end", "proc p(x) { if x.v { q(x); p(x); } else { p(x); } } proc q(x) { } main { p(a); }", "p", false, nil, "p q"},
		{"behind itself", "proc p(x) { if x.v { p(x); x.v := 1; } else { } } main { p(a); }", "", true, nil, "p"},
		{"an end that is behind an endless one", "proc p(x) { if x.v { p(x); } else { q(x); } } proc q(x) { q(x); } main { p(a); }", "p q", false, nil, "p q"},
	} {
		p := read(t, c.text)
		keys, ends, err := check.Endless(p)
		same(t, c.what+": Endless", []any{keys, ends, err}, []any{strings.Fields(c.endless), c.ends, api.OK})
		l, err := check.Unreached(p)
		same(t, c.what+": Unreached", []any{l, err}, []any{c.unreached, api.OK})
		keys, err = check.Called(p)
		same(t, c.what+": Called", []any{keys, err}, []any{strings.Fields(c.called), api.OK})
	}
}

func TestPartakers(t *testing.T) { // P2.3
	for _, c := range []struct {
		what, text string
		want       [][]int
	}{
		{"no procedure", "main { a.v := 1; }", nil},
		{"the example", example, [][]int{{0, 1}}},
		{"nothing is done", "proc p(x, y) { } main { p(a, b); }", [][]int{{}}},
		{"Role and To", "proc p(x, y, z) { z -> x [l]; } proc q(x, y, z) { y.1 -> z.v; } main { }", [][]int{{0, 2}, {1, 2}}},
		{"Role of a set", "proc p(x, y) { y.v := 1; } main { }", [][]int{{1}}},
		{"Role of a choice", "proc p(x, y) { if y.1 { } else { } } main { }", [][]int{{1}}},
		{"in branches", "proc p(x, y, z) { if y.1 { x.v := 1; } else { z.v := 1; } } main { }", [][]int{{0, 1, 2}}},
		{"one of Args alone", "proc p(x, y) { p(x, y); } main { }", [][]int{{}}},
		{"Args of one who does nothing", "proc p(x, y) { q(x, y); } proc q(x, y) { x.v := 1; } main { }", [][]int{{0}, {0}}},
		{"Args in another order", "proc p(x, y, z) { q(z, x); } proc q(x, y) { x.v := 1; } main { }", [][]int{{2}, {0}}},
		{"an earlier procedure", "proc q(x, y) { y.v := 1; } proc p(x, y, z) { q(z, x); } main { }", [][]int{{1}, {0}}},
		{"all by turns", "proc p(x, y, z) { x.v := 1; p(y, z, x); } main { }", [][]int{{0, 1, 2}}},
		{"some by turns", "proc p(x, y, z) { x.v := 1; p(y, x, z); } main { }", [][]int{{0, 1}}},
		{"by way of another one and back", "proc p(x, y) { q(x, y); } proc q(x, y) { p(y, x); x -> y [l]; } main { }", [][]int{{0, 1}, {0, 1}}},
		{"not reached", "proc p(x, y) { p(x, y); y.v := 1; } main { }", [][]int{{1}}},
		{"a variable with the name of a role", "proc p(x, y) { x.y := y; } main { }", [][]int{{0}}},
	} {
		l, err := check.Partakers(read(t, c.text))
		same(t, c.what, []any{l, err}, []any{c.want, api.OK})
	}
}

func TestEarly(t *testing.T) { // P2.4
	for _, c := range []struct{ what, text, want string }{
		{"the example", example, "2 x.w"},
		{"a send", "main { a.v -> b.w; b.w -> a.u; a.w -> b.u; }", "0 a.v, 2 a.w"},
		{"a send reads first", "main { a.v -> b.v; b.v -> a.v; a.v -> b.v; }", "0 a.v"},
		{"a set reads first", "main { a.v := v + 1; a.v := v + 1; }", "0 a.v"},
		{"a choice", "main { if a.v { a.v := 1; } else { } }", "0 a.v"},
		{"all names, rising, each one once", "main { a.v := (z + y < z) ? !x : y * z0; }", "0 a.x, 0 a.y, 0 a.z, 0 a.z0"},
		{"of another role", "main { a.v := 1; b.w := v; }", "1 b.v"},
		{"a tell sets nothing", "main { a -> b [v]; b.w := v; }", "1 b.v"},
		{"both branches set", "main { if a.1 { a.v := 1; } else { b.1 -> a.v; } a.w := v; }", ""},
		{"one branch sets", "main { if a.1 { a.v := 1; } else { } a.w := v; }", "2 a.v"},
		{"a value does not count", "main { if a.1 { } else { a.v := v; } }", "1 a.v"},
		{"in branches", "main { a.v := 1; if a.1 { a.w := v; } else { a.u := v; a.u := w; } }", "4 a.w"},
		{"what the other branch sets", "main { if a.1 { a.v := 1; } else { a.w := v; } }", "2 a.v"},
		{"the other branch has no end", "proc p(x) { p(x); } main { if a.1 { a.v := 1; } else { p(a); } a.w := v; }", ""},
		{"not reached", "proc p(x) { p(x); x.v := w; } main { p(a); a.v := w; }", ""},
		{"not called", "proc p(x) { x.v := w; } main { }", ""},
		{"set before the call", "proc p(x) { x.w := v; } main { a.v := 1; p(a); }", ""},
		{"set before one of the calls", "proc p(x) { x.w := v; } main { a.v := 1; p(a); p(b); }", "3 x.v"},
		{"set before all of the calls", "proc p(x) { x.w := v; } main { b.v := 1; a.v := 1; p(a); p(b); }", ""},
		{"set by the call", "proc p(x, y) { x.1 -> y.v; } main { p(a, b); b.w := v; a.w := v; }", "2 a.v"},
		{"set by a call in a call", "proc p(x, y) { q(y, x); } proc q(x, y) { x.v := 1; } main { p(a, b); b.w := v; a.w := v; }", "2 a.v"},
		{"set on one way through the call", "proc p(x) { if x.1 { x.v := 1; } else { } } main { p(a); a.w := v; }", "1 a.v"},
		{"set before the first end", "proc p(x) { if x.1 { p(x); } else { x.v := 1; } } main { p(a); a.w := v; }", ""},
		{"set by turns", "proc p(x, y) { if x.1 { p(y, x); } else { x.v := 1; } } main { p(a, b); a.w := v; b.w := v; }", "1 a.v, 2 b.v"},
		{"read by turns", "proc p(x, y) { if x.1 { p(y, x); } else { x.w := v; } } main { a.v := 1; p(a, b); }", "4 x.v"},
		{"set for the next turn", "proc p(x) { if x.v { x.v := 1; p(x); } else { } } main { p(a); }", "1 x.v"},
		{"set from the second turn on", "proc p(x) { if x.1 { x.v := 1; q(x); } else { } } proc q(x) { x.w := v; p(x); } main { p(a); }", ""},
		{"roles not in the call stay", "proc p(x) { x.v := 1; } main { b.v := 1; p(a); b.w := v; c.w := v; }", "3 c.v"},
		{"Params are not roles of Main", "proc p(a, b) { b.v := 1; } main { p(b, a); a.w := v; b.w := v; }", "2 b.v"},
		{"the same variable of two roles", "proc p(x, y) { x.w := v; y.w := v; } main { a.v := 1; p(a, b); p(b, a); }", "3 x.v, 4 y.v"},
		{"what is found out about one comes to the others", "proc p(x) { if x.1 { q(x); } else { x.v := 1; } } proc r(x) { p(x); } proc q(x) { if x.1 { r(x); } else { } } main { r(a); a.w := v; }", "1 a.v"},
		{"what is found out about one comes to the others by branches", "proc p(x) { if x.1 { q(x); } else { x.v := 1; } } proc r(x) { if x.1 { x.v := 1; } else { p(x); } } proc q(x) { if x.1 { p(x); } else { } } main { r(a); a.w := v; }", "1 a.v"},
		{"called in one branch", "proc p(x) { x.w := v; } main { if a.1 { a.v := 1; p(a); } else { } a.w := v; }", "3 a.v"},
	} {
		l, err := check.Early(read(t, c.text))
		var got []string
		for _, e := range l {
			got = append(got, fmt.Sprintf("%d %s.%s", e.Step, e.Role, e.Name))
		}
		same(t, c.what, []any{strings.Join(got, ", "), err}, []any{c.want, api.OK})
	}
}

func TestManyVariables(t *testing.T) { // P2.4: each variable for itself
	var set, early strings.Builder
	want := []api.Early{}
	names := manyNames(200)
	for i, name := range names {
		if i%3 == 0 {
			set.WriteString("a." + name + " := 1;")
		}
	}
	sets := 67
	for i, name := range names {
		early.WriteString("x.z := " + name + ";")
		if i%3 != 0 {
			want = append(want, api.Early{Step: sets + 1 + i, Role: "x", Name: name})
		}
	}
	l, err := check.Early(read(t, "proc p(x) {"+early.String()+"} main {"+set.String()+" p(a); }"))
	same(t, "Early", []any{l, err}, []any{want, api.OK})
}

func TestRings(t *testing.T) { // P2.5
	for _, c := range []struct {
		what, text string
		rings      [][]string
		deep       []int
	}{
		{"no procedure", "main { }", nil, nil},
		{"the example", example, [][]string{{"p"}}, nil},
		{"no ring", "proc p(x) { q(x); q(x); } proc q(x) { } main { p(a); }", nil, nil},
		{"itself", "proc p(x) { p(x); } main { }", [][]string{{"p"}}, nil},
		{"two", "proc p(x) { q(x); } proc q(x) { p(x); } main { }", [][]string{{"p", "q"}}, nil},
		{"there but not back", "proc p(x) { q(x); } proc q(x) { q(x); } main { p(a); }", [][]string{{"q"}}, nil},
		{"long", "proc p(x) { r(x); } proc q(x) { p(x); } proc r(x) { q(x); } main { }", [][]string{{"p", "q", "r"}}, nil},
		{"several", "proc p(x) { s(x); } proc q(x) { r(x); } proc n(x) { p(x); } proc r(x) { q(x); } proc s(x) { p(x); r(x); } main { }", [][]string{{"p", "s"}, {"q", "r"}}, []int{4}},
		{"two in one by a third one", "proc p(x) { q(x); } proc q(x) { if x.1 { p(x); } else { r(x); } } proc r(x) { q(x); } main { }", [][]string{{"p", "q", "r"}}, nil},
		{"not reached", "proc q(x) { q(x); } proc p(x) { q(x); p(x); } main { p(a); }", [][]string{{"q"}, {"p"}}, nil},
		{"in Else", "proc p(x) { if x.1 { } else { p(x); } } main { }", [][]string{{"p"}}, nil},
		{"behind the call", "proc p(x) { p(x); x.v := 1; } main { }", [][]string{{"p"}}, []int{0}},
		{"behind the branch", "proc p(x) { if x.1 { p(x); } else { p(x); } x.v := 1; } main { }", [][]string{{"p"}}, []int{1, 2}},
		{"last in Then, not last in Else", "proc p(x) { if x.1 { p(x); } else { p(x); x.v := 1; } } main { }", [][]string{{"p"}}, []int{2}},
		{"last within last", "proc p(x) { x.v := 1; if x.1 { if x.2 { p(x); } else { } } else { if x.3 { } else { p(x); p(x); } } } main { }", [][]string{{"p"}}, []int{5}},
		{"last within one that is not", "proc p(x) { if x.1 { if x.2 { p(x); } else { } x.v := 1; } else { } } main { }", [][]string{{"p"}}, []int{2}},
		{"the last call of two", "proc p(x) { q(x); q(x); } proc q(x) { p(x); } main { }", [][]string{{"p", "q"}}, []int{0}},
		{"of another ring", "proc p(x) { q(x); p(x); } proc q(x) { q(x); } main { }", [][]string{{"p"}, {"q"}}, nil},
		{"in Main", "proc p(x) { p(x); } main { p(a); p(b); }", [][]string{{"p"}}, nil},
		{"from no ring", "proc n(x) { p(x); x.v := 1; } proc p(x) { p(x); } main { }", [][]string{{"p"}}, nil},
	} {
		p := read(t, c.text)
		rings, err := check.Rings(p)
		same(t, c.what+": Rings", []any{rings, err}, []any{c.rings, api.OK})
		deep, err := check.Deep(p)
		same(t, c.what+": Deep", []any{deep, err}, []any{c.deep, api.OK})
	}
}
