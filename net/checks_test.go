package net_test

import (
	"fmt"
	"slices"
	"testing"

	"promptbook/api"
	"promptbook/net"
)

// parts are empty ones.
func parts(roles ...string) []api.Part {
	var l []api.Part
	for _, role := range roles {
		l = append(l, api.Part{Role: role})
	}
	return l
}

// risen are n names that rise.
func risen(n int) []string {
	var l []string
	for i := range n {
		l = append(l, fmt.Sprintf("r%02d", i))
	}
	return l
}

func TestCheckNet(t *testing.T) { // P7.1
	bad := api.Part{Role: "a", Main: []api.Act{{Kind: api.ActSet, Var: "v", Expr: number(1000)}}}
	with := func(l []api.Part, p api.Part) []api.Part { return append(slices.Clone(l), p) }
	twelve, more := parts(risen(api.MaxRoles)...), parts(risen(api.MaxRoles+1)...)
	full := make([]api.Store, api.MaxRoles)
	for i := range full {
		full[i] = api.Store{Role: twelve[i].Role, Vars: []api.Slot{{Name: "v", Value: 999}}}
	}
	for i, c := range []struct {
		p    []api.Part
		s    []api.Store
		want api.Errno
	}{
		{parts("a"), nil, api.OK}, {read(t, example), nil, api.OK}, {parts("a", "b", "c"), stores(t, "a x 1, c y 2, c z 999"), api.OK}, {twelve, full, api.OK},
		{nil, nil, api.ErrNone}, {nil, []api.Store{{}}, api.ErrNone}, {[]api.Part{}, stores(t, "a x 1"), api.ErrNone},
		{more, nil, api.ErrLarge}, {make([]api.Part, api.MaxRoles+1), []api.Store{{}}, api.ErrLarge}, {make([]api.Part, api.MaxRoles), nil, api.ErrName},
		{[]api.Part{{}}, nil, api.ErrName}, {parts("A"), nil, api.ErrName}, {parts("main"), []api.Store{{}}, api.ErrName}, {[]api.Part{bad}, []api.Store{{}}, api.ErrArg},
		{parts("a", "a"), nil, api.ErrOrder}, {parts("b", "a"), nil, api.ErrOrder}, {parts("a", "c", "b"), []api.Store{{}}, api.ErrOrder}, {parts("a1", "a"), nil, api.ErrOrder}, {parts("a", "a1", "aa", "b"), nil, api.OK},
		{with(parts("b"), bad), nil, api.ErrArg}, {with(parts("b", "a"), bad), nil, api.ErrOrder}, {with(parts("b", "b"), api.Part{}), nil, api.ErrOrder}, {with(parts("b"), api.Part{}), nil, api.ErrName},
		{parts("a"), []api.Store{{}}, api.ErrName}, {parts("a"), []api.Store{{Role: "b"}}, api.ErrForm}, {parts("a"), make([]api.Store, api.MaxRoles+1), api.ErrLarge}, {parts("a", "b"), slices.Concat(stores(t, "b x 1"), stores(t, "a x 1")), api.ErrOrder},
		{parts("a"), []api.Store{{Role: "a", Vars: []api.Slot{{Name: "x"}}}}, api.ErrArg}, {parts("a"), []api.Store{{Role: "a", Vars: []api.Slot{{Name: "x", Value: 1000}}}}, api.ErrArg},
		{parts("a"), slices.Concat(stores(t, "b x 1"), []api.Store{{}}), api.ErrName}, // stores are looked at before roles are looked for
		{parts("a"), stores(t, "b x 1"), api.ErrNone}, {parts("a", "c"), stores(t, "a x 1, b x 1, c x 1"), api.ErrNone}, {parts("b"), stores(t, "a x 1"), api.ErrNone},
		{read(t, "part a { send b 1; }"), stores(t, "b x 1"), api.ErrNone}, // there is such a role, but no part of it
	} {
		if got := net.CheckNet(c.p, c.s); got != c.want {
			t.Errorf("%d: %s, %v: got %d, want %d", i, short(c.p), c.s, got, c.want)
		}
		if c.want != api.OK {
			same(t, fmt.Sprint("all functions ", i), everything(c.p, c.p, c.s, make([]string, api.MaxMoves+1), nil, -1, 0), nothing(c.want))
		}
	}
}

func TestReachErrors(t *testing.T) { // P7.2, Z4
	p := read(t, example)
	loop := read(t, "part a { call p 0 (a); } local p 0 (x) { call p 0 (x); } part b { }")
	all := func(name string, n int) []string { return slices.Repeat([]string{name}, n) }
	for i, c := range []struct {
		p     []api.Part
		moves []string
		want  api.Errno
	}{
		{p, nil, api.OK}, {p, []string{"a", "b", "b", "a"}, api.OK}, {p, []string{"a", "a"}, api.ErrRule}, {p, []string{"a", "b", "a", "a"}, api.ErrRule},
		{p, []string{"c"}, api.ErrNone}, {p, []string{""}, api.ErrNone}, {p, []string{"A"}, api.ErrNone}, {p, []string{"a", "c", "a"}, api.ErrNone}, {p, []string{"a", "a", "c"}, api.ErrRule},
		{loop, all("a", api.MaxMoves), api.OK}, {loop, all("a", api.MaxMoves+1), api.ErrLarge}, {loop, all("c", api.MaxMoves+1), api.ErrLarge}, {loop, all("c", api.MaxMoves), api.ErrNone}, {loop, []string{"a", "b"}, api.ErrRule},
	} {
		_, _, err := net.Reach(c.p, nil, c.moves)
		same(t, fmt.Sprint("Reach ", i), err, c.want)
		_, err = net.Able(c.p, nil, c.moves)
		same(t, fmt.Sprint("Able ", i), err, c.want)
		if c.want != api.OK {
			s, l, _ := net.Reach(c.p, nil, c.moves)
			names, _ := net.Able(c.p, nil, c.moves)
			same(t, fmt.Sprint("nothing ", i), []any{s, l, names}, []any{api.State{}, "[]", "[]"})
		}
	}
}

func TestRunErrors(t *testing.T) { // P7.2, Z4
	p := read(t, example)
	for i, c := range []struct {
		choices     []int
		most        int
		want, turns api.Errno
	}{
		{[]int{0}, 4, api.OK, api.OK}, {[]int{0, 1000, 1}, 4, api.OK, api.OK}, {[]int{0}, api.MaxMoves, api.OK, api.OK},
		{nil, 4, api.ErrNone, api.OK}, {[]int{}, 0, api.ErrNone, api.ErrArg}, {[]int{-1}, 4, api.ErrArg, api.OK}, {[]int{1001}, 4, api.ErrArg, api.OK}, {[]int{0, 5, -1}, 1, api.ErrArg, api.ErrFull},
		{[]int{0}, 0, api.ErrArg, api.ErrArg}, {[]int{0}, -1, api.ErrArg, api.ErrArg}, {[]int{0}, api.MaxMoves + 1, api.ErrArg, api.ErrArg}, {[]int{0}, 3, api.ErrFull, api.ErrFull}, {[]int{1}, 1, api.ErrFull, api.ErrFull},
	} {
		s, events, names, err := net.Run(p, nil, c.choices, c.most)
		same(t, fmt.Sprint("Run ", i), err, c.want)
		q, leftErr := net.Left(p, nil, c.choices, c.most)
		same(t, fmt.Sprint("Left ", i), leftErr, c.want)
		moves, turnsErr := net.Turns(p, nil, c.most)
		same(t, fmt.Sprint("Turns ", i), turnsErr, c.turns)
		if err != api.OK {
			same(t, fmt.Sprint("nothing ", i), []any{s, events, names, q}, "[[] [] [] []]")
		}
		if turnsErr != api.OK {
			same(t, fmt.Sprint("no moves ", i), moves, "[]")
		}
	}
	ended := parts("a", "b")
	_, _, _, err := net.Run(ended, nil, []int{7}, 1)
	same(t, "no move is needed", err, api.OK)
	loop := read(t, "part a { call p 0 (a); } local p 0 (x) { call p 0 (x); }")
	_, _, _, err = net.Run(loop, nil, []int{7}, api.MaxMoves)
	same(t, "no end", err, api.ErrFull)
}

func TestExploreErrors(t *testing.T) { // P7.3, Z4
	p := read(t, example)
	dead := read(t, "part a { send b 1; take b x; } part b { }")
	for i, c := range []struct {
		room, most int
		want, ends api.Errno
	}{
		{0, 7, api.OK, api.OK}, {api.MaxRoom, api.MaxStates, api.OK, api.OK}, {1, 7, api.OK, api.OK},
		{-1, 7, api.ErrArg, api.OK}, {api.MaxRoom + 1, 7, api.ErrArg, api.OK}, {-1, 6, api.ErrArg, api.ErrFull}, {0, 0, api.ErrArg, api.ErrArg}, {0, -1, api.ErrArg, api.ErrArg}, {0, api.MaxStates + 1, api.ErrArg, api.ErrArg}, {101, 0, api.ErrArg, api.ErrArg},
		{0, 6, api.ErrFull, api.ErrFull}, {0, 1, api.ErrFull, api.ErrFull},
	} {
		told, err := net.Explore(p, nil, c.room, c.most)
		same(t, fmt.Sprint("Explore ", i), err, c.want)
		if err != api.OK {
			same(t, fmt.Sprint("nothing ", i), told, api.Explored{})
		}
		_, _, err = net.Dead(p, nil, c.room, c.most)
		same(t, fmt.Sprint("Dead ", i), err, c.want)
		l, err := net.Ends(p, nil, c.most)
		same(t, fmt.Sprint("Ends ", i), []any{len(l) == 1, err}, []any{c.ends == api.OK, c.ends})
		is, err := net.Alike(p, p, nil, c.most)
		same(t, fmt.Sprint("Alike ", i), []any{is, err}, []any{c.ends == api.OK, c.ends})
	}
	moves, is, err := net.Dead(dead, nil, 0, 2)
	same(t, "two states", []any{moves, is, err}, []any{"[a]", true, api.OK})
	// A state of Deads is found at once, but there are more than most.
	more := read(t, "part a { take b x; } part b { call p 0 (b); } local p 0 (x) { set v v + 1; call p 0 (x); }")
	moves, is, err = net.Dead(more, nil, 0, 3)
	same(t, "no end", []any{moves, is, err}, []any{"[]", false, api.ErrFull})
	moves, is, err = net.Dead(dead, nil, 0, 1)
	same(t, "the state of Deads is too much", []any{moves, is, err}, []any{"[]", false, api.ErrFull})
}

func TestAlikeErrors(t *testing.T) { // P7.3, Z4
	ok, one, none := read(t, example), parts("b"), []api.Part(nil)
	noOrder := parts("b", "a")
	large := read(t, "part a { call p 0 (a); } local p 0 (x) { set v v + 1; call p 0 (x); } part b { }")
	for i, c := range []struct {
		p, q []api.Part
		s    []api.Store
		most int
		want api.Errno
	}{
		{ok, ok, nil, 7, api.OK}, {ok, one, nil, 7, api.OK}, {none, noOrder, nil, 0, api.ErrNone}, {noOrder, none, nil, 0, api.ErrOrder}, {ok, noOrder, nil, 0, api.ErrOrder}, {ok, none, nil, 0, api.ErrNone},
		{ok, ok, []api.Store{{}}, 0, api.ErrName}, {one, ok, stores(t, "a x 1"), 0, api.ErrNone}, {ok, one, stores(t, "a x 1"), 0, api.ErrNone}, {ok, one, stores(t, "b x 1"), 7, api.OK},
		{large, ok, nil, 0, api.ErrArg}, {large, ok, nil, api.MaxStates + 1, api.ErrArg}, {large, ok, nil, 100, api.ErrFull}, {ok, large, nil, 100, api.ErrFull}, {ok, ok, nil, 6, api.ErrFull}, {one, ok, nil, 6, api.ErrFull}, {one, one, nil, 1, api.OK},
	} {
		is, err := net.Alike(c.p, c.q, c.s, c.most)
		same(t, fmt.Sprint("errors ", i), err, c.want)
		if err != api.OK && is {
			t.Error("alike with an error:", i)
		}
	}
}
