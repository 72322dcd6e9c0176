package run_test

import (
	"fmt"
	"math"
	"slices"
	"strings"
	"testing"

	"promptbook/api"
	"promptbook/check"
	"promptbook/run"
)

func TestRun(t *testing.T) { // P4.2
	for _, c := range []struct{ what, text, first, end, events, done string }{
		{"the example", example, "", "a.x=7 b.y=8", "a set x 7; a send b 8; b take a y 8; b if 0", "0 1 2"},
		{"nothing", "main { }", "", "", "", ""},
		{"set", "main { a.x := 3; a.x := x + x; }", "", "a.x=6", "a set x 3; a set x 6", "0 1"},
		{"first values", "main { a.x := x + y; }", "a.x=5 a.y=990", "a.x=995 a.y=990", "a set x 995", "0"},
		{"what is not there is 0", "main { a.x := y == 0; a.z := !w; }", "", "a.x=1 a.z=1", "a set x 1; a set z 1", "0 1"},
		{"what becomes 0 is not there", "main { a.x := 0; b.y := 1 - 1; }", "a.x=5 a.z=1 b.y=2", "a.z=1", "a set x 0; b set y 0", "0 1"},
		{"a number is too large", "main { a.x := x + 1; }", "a.x=999", "", "a set x 0", "0"},
		{"each role has its own", "main { a.x := x + 1; b.x := x + 1; }", "a.x=5 b.x=7", "a.x=6 b.x=8", "a set x 6; b set x 8", "0 1"},
		{"by role, then name", "main { c.z := 1; a.z := 1; c.y := 2; b.x := 3; a.b := 4; }", "", "a.b=4 a.z=1 b.x=3 c.y=2 c.z=1", "c set z 1; a set z 1; c set y 2; b set x 3; a set b 4", "0 1 2 3 4"},
		{"send", "main { a.x * 2 -> b.x; b.x -> a.y; }", "a.x=4 b.y=3", "a.x=4 a.y=8 b.x=8 b.y=3", "a send b 8; b take a x 8; b send a 8; a take b y 8", "0 1"},
		{"0 is sent", "main { a.x -> b.x; }", "b.x=4", "", "a send b 0; b take a x 0", "0"},
		{"tell", "main { a -> b [l]; b -> a [x]; }", "a.x=1", "a.x=1", "a tell b l; b offer a l; b tell a x; a offer b x", "0 1"},
		{"then", "main { if a.x { a.y := 1; a.y := 2; } else { a.z := 1; } b.x := 1; }", "a.x=5", "a.x=5 a.y=2 b.x=1", "a if 1; a set y 1; a set y 2; b set x 1", "0 1 2 4"},
		{"else", "main { if a.x { a.y := 1; a.y := 2; } else { a.z := 1; } b.x := 1; }", "", "a.z=1 b.x=1", "a if 0; a set z 1; b set x 1", "0 3 4"},
		{"one decides by its own", "main { if a.x { } else { } if b.x { } else { } }", "b.x=2", "b.x=2", "a if 0; b if 1", "0 1"},
		{"within one another", "main { if a.1 { if b.0 { } else { if c.999 { a.x := 1; } else { } } } else { } a.y := 1; }", "", "a.x=1 a.y=1", "a if 1; b if 0; c if 1; a set x 1; a set y 1", "0 1 2 3 4"},
		{"call", "proc p(x, y) { x.v -> y.w; } main { p(b, a); p(a, b); }", "a.v=1 b.v=2", "a.v=1 a.w=2 b.v=2 b.w=1", "b send a 2; a take b w 2; a send b 1; b take a w 1", "0 2 1 2"},
		{"an empty body", "proc p(x) { } main { p(a); p(b); }", "", "", "", "0 1"},
		{"Params called like roles", "proc p(b, a) { b.x := 1; a.x := 2; q(a, b); } proc q(b, c) { b -> c [l]; } main { p(a, b); }", "", "a.x=1 b.x=2", "a set x 1; b set x 2; b tell a l; a offer b l", "0 1 2 3 4"},
		{"all kinds in a body", "proc p(x, y) { x.1 -> y.v; x -> y [l]; y.w := v; if y.w { p2(y); } else { } } proc p2(z) { z.u := 3; } main { p(a, b); }", "", "b.u=3 b.v=1 b.w=1",
			"a send b 1; b take a v 1; a tell b l; b offer a l; b set w 1; b if 1; b set u 3", "0 1 2 3 4 5 6"},
		{"again and again", "proc p(x, y) { if x.n { x.n - 1 -> y.n; p(y, x); } else { } } main { p(a, b); b.z := 1; }", "a.n=3", "a.n=1 b.z=1",
			"a if 1; a send b 2; b take a n 2; b if 1; b send a 1; a take b n 1; a if 1; a send b 0; b take a n 0; b if 0; b set z 1", "0 2 3 4 2 3 4 2 3 4 2 1"},
		{"behind a call", "proc p(x) { if x.n { x.n := n - 1; p(x); x.m := m * 2 + 1; } else { } } main { p(a); }", "a.n=2", "a.m=3", "a if 1; a set n 1; a if 1; a set n 0; a if 0; a set m 1; a set m 3", "0 1 2 3 1 2 3 1 4 4"},
	} {
		p := read(t, c.text)
		s, l, err := run.Run(p, stores(c.first), api.MaxFuel)
		same(t, c.what, []any{s, l, err}, []any{stores(c.end), events(c.events), api.OK})
		done, err := run.Done(p, stores(c.first), api.MaxFuel)
		same(t, c.what, []any{done, err}, []any{"[" + c.done + "]", api.OK})
		fuel, is, err := run.Fuel(p, stores(c.first))
		same(t, c.what, []any{fuel, is, err}, []any{len(done), true, api.OK})
	}
}

// count does x.n rounds of two steps, one step more, and the call.
const count = "proc p(x) { if x.n { x.n := n - 1; p(x); } else { } } main { p(a); }"

func TestFuel(t *testing.T) { // P4.2
	for _, c := range []struct {
		what, text, first string
		want              int
		is                bool
	}{
		{"nothing", "main { }", "", 0, true},
		{"each kind", "proc p(x) { } main { a.1 -> b.x; a -> b [l]; a.x := 1; if a.1 { } else { } p(a); }", "", 5, true},
		{"a choice with a branch", "main { if a.0 { a.x := 1; } else { a.x := 2; a.x := 3; } }", "", 3, true},
		{"rounds", count, "a.n=999", 999*3 + 2, true},
		{"an endless one", "proc p(x) { p(x); } main { p(a); }", "", 0, false},
		{"endless, by way of others", "proc p(x) { q(x); } proc q(x) { if x.1 { p(x); } else { } a(x); } proc a(x) { } main { p(a); }", "", 0, false},
		{"just MaxFuel", "proc p(x) {" + strings.Repeat("x.v := 1;", 99) + "} main {" + strings.Repeat("p(a);", 100) + "}", "", 10_000, true},
		{"one more", "proc p(x) {" + strings.Repeat("x.v := 1;", 99) + "} main {" + strings.Repeat("p(a);", 100) + "a -> b [l]; }", "", 0, false},
		{"a call more", "proc q(x) { } proc p(x) {" + strings.Repeat("x.v := 1;", 98) + " q(x); } main {" + strings.Repeat("p(a);", 100) + "q(a); }", "", 0, false},
	} {
		p := read(t, c.text)
		n, is, err := run.Fuel(p, stores(c.first))
		same(t, c.what, []any{n, is, err}, []any{c.want, c.is, api.OK})
		if !is {
			_, _, err := run.Run(p, stores(c.first), api.MaxFuel)
			same(t, c.what, err, api.ErrFull)
			continue
		}
		_, _, err = run.Run(p, stores(c.first), n)
		same(t, c.what, err, api.OK)
		if n > 0 {
			s, l, err := run.Run(p, stores(c.first), n-1)
			same(t, c.what, []any{s, l, err}, []any{[]api.Store{}, []api.Event{}, api.ErrFull})
			done, err := run.Done(p, stores(c.first), n-1)
			same(t, c.what, []any{done, err}, []any{[]int{}, api.ErrFull})
		}
	}
}

func TestMid(t *testing.T) { // P4.2
	p := read(t, "proc p(x) { x.u := 1; } main { a.x := 5; p(b); if a.x { a.1 -> b.u; } else { } p(a); }")
	for n, c := range []struct {
		end, events string
		is          bool
	}{
		{"b.w=3", "", false},
		{"a.x=5 b.w=3", "a set x 5", false},
		{"a.x=5 b.w=3", "a set x 5", false},
		{"a.x=5 b.u=1 b.w=3", "a set x 5; b set u 1", false},
		{"a.x=5 b.u=1 b.w=3", "a set x 5; b set u 1; a if 1", false},
		{"a.x=5 b.u=1 b.w=3", "a set x 5; b set u 1; a if 1; a send b 1; b take a u 1", false},
		{"a.x=5 b.u=1 b.w=3", "a set x 5; b set u 1; a if 1; a send b 1; b take a u 1", false},
		{"a.u=1 a.x=5 b.u=1 b.w=3", "a set x 5; b set u 1; a if 1; a send b 1; b take a u 1; a set u 1", true},
		{"a.u=1 a.x=5 b.u=1 b.w=3", "a set x 5; b set u 1; a if 1; a send b 1; b take a u 1; a set u 1", true},
	} {
		s, l, is, err := run.Mid(p, stores("b.w=3"), n)
		same(t, fmt.Sprint("after ", n), []any{s, l, is, err}, []any{stores(c.end), events(c.events), c.is, api.OK})
	}
	for _, c := range []struct {
		what, text string
		n          int
		is         bool
	}{
		{"nothing", "main { }", 0, true},
		{"nothing, and more", "main { }", api.MaxFuel, true},
		{"a last choice without steps", "main { if a.1 { } else { a.x := 1; } }", 1, true},
		{"a last choice with steps", "main { if a.0 { } else { a.x := 1; } }", 1, false},
		{"a last call without steps", "proc p(x) { } main { p(a); }", 1, true},
		{"a last call with steps", "proc p(x) { x.v := 1; } main { p(a); }", 1, false},
		{"last ones within one another", "proc p(x) { if x.1 { q(x); } else { } } proc q(x) { } main { if a.1 { p(a); } else { } }", 4, true},
		{"an endless one", "proc p(x) { p(x); } main { p(a); }", api.MaxFuel, false},
		{"an endless one that sets", "proc p(x) { x.v := v + 1; p(x); } main { p(a); }", api.MaxFuel, false},
	} {
		_, _, is, err := run.Mid(read(t, c.text), nil, c.n)
		same(t, c.what, []any{is, err}, []any{c.is, api.OK})
	}
}

// outcomes are the errors of all functions with a play, stores and fuel. Those of Fuel and Mid come last.
func outcomes(p api.Play, s []api.Store, fuel int) []api.Errno {
	_, _, e0 := run.Run(p, s, fuel)
	_, e1 := run.Done(p, s, fuel)
	_, e2 := run.Sources(p, s, fuel, "a", "x")
	_, e3 := run.Never(p, [][]api.Store{s}, fuel)
	_, _, e4 := run.Differ(p, p, [][]api.Store{s}, fuel)
	_, _, e5 := run.Fuel(p, s)
	_, _, _, e6 := run.Mid(p, s, fuel)
	return []api.Errno{e0, e1, e2, e3, e4, e5, e6}
}

func TestRunErrors(t *testing.T) { // P4.2, Z4
	good := read(t, example)
	unordered := stores("b.x=1 a.x=1")
	for _, c := range []struct {
		what  string
		p     api.Play
		first []api.Store
		fuel  int
		want  string // of Run, Done and Sources; of Never and Differ; of Fuel; of Mid
	}{
		{"right", good, stores("a.x=1 b.z=5"), 3, "0 0 0 0"},
		{"right, with more", good, nil, api.MaxFuel, "0 0 0 0"},
		{"no play", api.Play{Main: []api.Step{{}}}, unordered, -1, "4 4 4 4"},
		{"not well formed", read(t, "main { a -> a [l]; }"), unordered, -1, "6 6 6 6"},
		{"no procedure", read(t, "main { p(a); }"), unordered, -1, "8 8 8 8"},
		{"wrong stores", good, unordered, 2, "7 7 7 7"},
		{"wrong stores, wrong fuel", good, unordered, -1, "7 1 7 7"},
		{"no role", good, stores("a.x=1 c.x=1"), 2, "8 8 8 8"},
		{"no role, wrong fuel", good, stores("c.x=1"), api.MaxFuel + 1, "8 1 8 8"},
		{"wrong stores before no role", good, stores("c.x=1 a.x=1"), 3, "7 7 7 7"},
		{"role of a procedure", read(t, "proc p(x) { x.v := 1; } main { p(a); }"), stores("x.v=1"), 9, "8 8 8 8"},
		{"role of a procedure that is called like one", read(t, "proc p(x) { x.v := 1; } main { x.v := 2; }"), stores("x.v=1"), 9, "0 0 0 0"},
		{"role of Args", read(t, "proc p(x) { } main { p(a); }"), stores("a.v=1"), 9, "0 0 0 0"},
		{"role of To", read(t, "main { a -> b [l]; }"), stores("b.v=1"), 9, "0 0 0 0"},
		{"role of a branch that is not done", read(t, "main { if a.1 { } else { b.x := 1; } }"), stores("b.v=1"), 9, "0 0 0 0"},
		{"role of nothing", read(t, "main { }"), stores("a.x=1"), 9, "8 8 8 8"},
		{"fuel below 0", good, nil, -1, "1 1 0 1"},
		{"fuel far below 0", good, nil, math.MinInt, "1 1 0 1"},
		{"too much fuel", good, nil, api.MaxFuel + 1, "1 1 0 1"},
		{"far too much fuel", good, nil, math.MaxInt, "1 1 0 1"},
		{"it does not last", good, nil, 2, "12 12 0 0"},
		{"no fuel", good, nil, 0, "12 12 0 0"},
		{"no fuel, nothing to do", read(t, "main { }"), nil, 0, "0 0 0 0"},
	} {
		var a, b, e, m int
		fmt.Sscan(c.want, &a, &b, &e, &m)
		same(t, c.what, outcomes(c.p, c.first, c.fuel), []int{a, a, a, b, b, e, m})
	}
	s, l, err := run.Run(good, unordered, 3)
	same(t, "Run", []any{s, l, err}, []any{[]api.Store{}, []api.Event{}, api.ErrOrder})
	n, is, err := run.Fuel(good, unordered)
	same(t, "Fuel", []any{n, is, err}, []any{0, false, api.ErrOrder})
	s, l, is, err = run.Mid(good, nil, -1)
	same(t, "Mid", []any{s, l, is, err}, []any{[]api.Store{}, []api.Event{}, false, api.ErrArg})
}

func TestRandomRuns(t *testing.T) { // P4.2
	d := &dice{1}
	trials(t, d, 3000, func(c trial) {
		s, l, err := run.Run(c.play, c.first, c.fuel)
		done, doneErr := run.Done(c.play, c.first, c.fuel)
		if c.told.full {
			same(t, c.what, []any{s, l, err, done, doneErr}, []any{[]api.Store{}, []api.Event{}, api.ErrFull, []int{}, api.ErrFull})
		} else {
			same(t, c.what, []any{s, l, err, done, doneErr}, []any{c.told.stores(), c.told.events, api.OK, c.told.done, api.OK})
			n, is, err := run.Fuel(c.play, c.first)
			same(t, c.what, []any{n, is, err}, []any{len(done), true, api.OK})
			more, moreEvents, err := run.Run(c.play, c.first, c.fuel+d.roll(100))
			same(t, "more fuel for "+c.what, []any{more, moreEvents, err}, []any{s, l, api.OK})
		}
		s, l, is, err := run.Mid(c.play, c.first, c.fuel)
		same(t, c.what, []any{s, l, is, err}, []any{c.told.stores(), c.told.events, !c.told.full, api.OK})
	})
}

func TestRunsAndWays(t *testing.T) { // P4.2, and what follows here and in chapter 2
	trials(t, &dice{2}, 600, func(c trial) {
		unreached, _ := check.Unreached(c.play)
		isUnreached := map[int]bool{}
		for _, n := range unreached {
			isUnreached[n] = true
		}
		for _, n := range c.told.done {
			if isUnreached[n] {
				t.Errorf("step %d is done, but not reached: %s", n, c.what)
			}
		}
		_, want, wantErr := run.Run(c.play, c.first, 2000)
		trimmed, _ := check.Trimmed(c.play)
		checkSameEvents(t, "trimmed "+c.what, trimmed, c, want, wantErr)
		inlined, err := check.Inlined(c.play)
		if err == api.OK {
			checkSameEvents(t, "inlined "+c.what, inlined, c, want, wantErr)
		}
	})
}

// checkSameEvents compares the events of a play that was changed; roles that do nothing at all can be lost by the change.
func checkSameEvents(t *testing.T, what string, p api.Play, c trial, want []api.Event, wantErr api.Errno) {
	t.Helper()
	var first []api.Store
	for _, s := range c.first {
		if slices.Contains(rolesOf(p), s.Role) {
			first = append(first, s)
		}
	}
	_, l, err := run.Run(p, first, 2000)
	if wantErr == api.OK {
		same(t, what, []any{l, err}, []any{want, api.OK})
	}
}
