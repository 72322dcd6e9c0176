package net_test

import (
	"fmt"
	"slices"
	"strings"
	"testing"

	"promptbook/api"
	"promptbook/net"
	"promptbook/part"
)

// These networks are as large as they can be. What writes out whole rests or whole queues, state by state, would need more memory than there is.

// endless are networks with more states than MaxStates.
func endless() map[string]string {
	return map[string]string{
		"a queue that grows":           "part a { call p 0 (a, b); } local p 0 (x, y) { send y v; set v v + 1; call p 0 (x, y); } part b { }",
		"a queue of equal letters":     "part a { call p 0 (a, b); } local p 0 (x, y) { send y 7; call p 0 (x, y); } part b { call p 1 (a, b); } local p 1 (x, y) { take x v; call p 1 (x, y); }",
		"a rest that grows":            "part a { call p 0 (a); } local p 0 (x) { call p 0 (x); " + strings.Repeat("set v v + 1; ", api.MaxActs-2) + "}",
		"a rest that is made again":    "part a { call p 0 (a); } local p 0 (x) { set c c + 1; call q 0 (x); call p 0 (x); } local q 0 (x) { " + strings.Repeat("set v v + 1; ", api.MaxActs-4) + "}",
		"roles that stand for others":  exchanged(),
		"many variables":               "part a { call p 0 (a); } local p 0 (x) { set c c + 1; " + chain(api.MaxActs-3, "set v%d v%d + 1; ") + "call p 0 (x); }",
		"many queues to no part":       "part a { call p 0 (a); " + strings.Repeat("set v 1; ", 100) + "} local p 0 (x) { call p 0 (x); } part b { " + chain(api.MaxActs, "tell r%d l%d; ") + "} part c { call p 0 (c); } local p 0 (x) { set v v + 1; call p 0 (x); }",
		"many roles, each for itself":  crowd("set v v + 1; "),
		"many roles with many letters": crowd("tell z l; "),
	}
}

func chain(n int, act string) string {
	var b strings.Builder
	for i := range n {
		fmt.Fprintf(&b, act, i, i)
	}
	return b.String()
}

// exchanged is a part whose Local calls itself with its roles in two other orders, in which hardly any order of them comes again.
func exchanged() string {
	params := "(x0, x1, x2, x3, x4, x5, x6, x7, x8, x9, xa, xb)"
	body := "set c c * 7 + 3; if c < 500 { call p 0 (x0, x2, x3, x4, x5, x6, x7, x8, x9, xa, xb, x1); } else { call p 0 (x0, x2, x1, x3, x4, x5, x6, x7, x8, x9, xa, xb); } "
	return "part a { call p 0 (a, r1, r2, r3, r4, r5, r6, r7, r8, r9, ra, rb); } local p 0 " + params + " { " + body + strings.Repeat("tell x1 l; send xb c; ", 20) + "}"
}

// crowd is as many parts as there can be, each with the same act as often as it can be.
func crowd(act string) string {
	var b strings.Builder
	for _, role := range risen(api.MaxRoles) {
		b.WriteString("part " + role + " { " + strings.Repeat(act, api.MaxActs) + "} ")
	}
	return b.String()
}

func TestEndless(t *testing.T) { // P7.3, Z1
	for what, s := range endless() {
		p := read(t, s)
		told, err := net.Explore(p, nil, 0, api.MaxStates)
		same(t, what, []any{told, err}, []any{api.Explored{}, api.ErrFull})
		_, err = net.Ends(p, nil, api.MaxStates)
		same(t, "Ends of "+what, err, api.ErrFull)
		_, _, _, err = net.Run(p, nil, []int{1000, 0, 1, 2}, api.MaxMoves)
		same(t, "Run of "+what, err, api.ErrFull)
		_, err = net.Turns(p, nil, api.MaxMoves)
		same(t, "Turns of "+what, err, api.ErrFull)
	}
}

func TestLongQueues(t *testing.T) { // P7.3, Z1
	const n = api.MaxActs - 10
	var sends strings.Builder
	for i := range n {
		fmt.Fprintf(&sends, "send b %d; ", i%997)
	}
	p := read(t, "part a { "+sends.String()+"tell c l; } part b { offer c { l { "+strings.Repeat("take a v; ", n)+" } } } part c { offer a { l { tell b l; } } }")
	told, err := net.Explore(p, nil, 0, api.MaxStates)
	same(t, "long queues", []any{told, err}, []any{api.Explored{States: 2*n + 5, Moves: 2*n + 4, Ends: 1, Longest: n}, api.OK})
	_, is, err := net.Dead(p, nil, api.MaxRoom, api.MaxStates)
	same(t, "with less room", []any{is, err}, []any{true, api.OK})
	moves, _, _ := net.Dead(p, nil, api.MaxRoom, api.MaxStates)
	same(t, "as many as there is room for", moves, slices.Repeat([]string{"a"}, api.MaxRoom))
}

// turned are 1,024 acts, some x and the others y, so that their hash is that of the acts with x and y exchanged, if it is a sum of products with powers of any odd number modulo 2 to the 64.
func turned(x, y string) string {
	l, other := x, y
	for range 10 {
		l, other = l+other, other+l
	}
	return l
}

func TestEqualHashes(t *testing.T) { // P7.3
	x, y := "if 0 { set v 1; } else { } ", "if 0 { set v 2; } else { } "
	told, err := net.Explore(read(t, "part a { "+turned(x, y)+"call p 0 (a); } local p 0 (x) { "+turned(y, x)+"call p 0 (x); }"), nil, 0, api.MaxStates)
	same(t, "rests", []any{told, err}, []any{api.Explored{States: 2049, Moves: 2049}, api.OK})
	// b takes 1,024 letters when a has sent all, and forgets them; then a sends others.
	x, y = "send %[1]s 1; ", "send %[1]s 2; "
	sends := func(x, y, to string) string { return fmt.Sprintf(turned(x, y), to) }
	p := read(t, "part a { "+sends(x, y, "b")+"tell c l; offer c { l { call p 0 (a, b, c); } } } local p 0 (x, y, z) { "+sends(y, x, "y")+"tell z l; offer z { l { call p 0 (x, y, z); } } } "+
		"part b { call p 1 (a, b, c); } local p 1 (x, y, z) { offer z { l { } } "+strings.Repeat("take x v; ", 1024)+"set v 0; tell z l; call p 1 (x, y, z); } "+
		"part c { call p 2 (a, b, c); } local p 2 (x, y, z) { offer x { l { tell y l; } } offer y { l { tell x l; } } call p 2 (x, y, z); }")
	told, err = net.Explore(p, nil, 0, api.MaxStates)
	same(t, "queues", []any{told, err}, []any{api.Explored{States: 10279, Moves: 18495, Longest: 1024}, api.OK})
}

func TestMostMoves(t *testing.T) { // P7.2, Z1
	p := read(t, "part a { "+strings.Repeat("set v v + 1; ", api.MaxActs-2)+"send b v; } part b { take a v; }")
	last, events, busy, err := net.Run(p, nil, []int{0}, api.MaxMoves)
	same(t, "run", []any{storesText(last), len(events), busy, err}, []any{"a v 998, b v 998", api.MaxMoves, "[]", api.OK})
	_, _, _, err = net.Run(p, nil, []int{0}, api.MaxMoves-1)
	same(t, "one move less", err, api.ErrFull)
	moves, err := net.Turns(p, nil, api.MaxMoves)
	same(t, "turns", []any{len(moves), err}, []any{api.MaxMoves, api.OK})
	state, events, err := net.Reach(p, nil, moves)
	same(t, "reach", []any{stateText(t, state), len(events), err}, []any{"a: b: | a.v=998 b.v=998 | ", api.MaxMoves, api.OK})
	state, _, err = net.Reach(p, nil, nil)
	same(t, "at first", []any{len(state.Nodes[0].Rest), err}, []any{api.MaxActs - 1, api.OK})
}

func TestLargeExpressions(t *testing.T) { // P7.1, Z1
	e := name("v")
	for range 12 { // 4,096 variables
		e = api.Expr{Op: api.OpAdd, Args: []api.Expr{e, e}}
	}
	p := []api.Part{{Role: "a", Main: []api.Act{{Kind: api.ActCall, Proc: "p", Args: []string{"a"}}}, Locals: []api.Local{{Key: "p", Params: []string{"x"}, Body: []api.Act{
		{Kind: api.ActSet, Var: "v", Expr: e}, {Kind: api.ActCall, Proc: "p", Args: []string{"x"}},
	}}}}}
	if err := part.CheckPart(p[0]); err != api.OK {
		t.Fatal(err)
	}
	told, err := net.Explore(p, stores(t, "a v 1"), 0, api.MaxStates)
	same(t, "26 powers of 96", []any{told, err}, []any{api.Explored{States: 52, Moves: 52}, api.OK})
}
