package net_test

import (
	"fmt"
	"testing"

	"promptbook/api"
	"promptbook/net"
	"promptbook/project"
	"promptbook/run"
	"promptbook/script"
)

// plays are some that can be projected.
var plays = []string{
	"main { a.7 -> b.x; b.x + 1 -> c.y; c.y -> a.z; }",
	"proc p(x, y) { x.v -> y.v; if y.v < 5 { y -> x [again]; x.v := v + 1; p(x, y); } else { y -> x [stop]; } y.w := v; } main { a.v := 2; p(a, b); p(b, c); c.v -> a.x; }",
	"main { if a.v { a -> b [yes]; a -> c [l]; b.1 -> c.v; } else { a -> b [no]; a -> c [m]; c.2 -> b.v; } b.v -> a.u; }",
	"proc ring(x, y, z) { x.v + 1 -> y.v; if y.v < 9 { y -> x [go]; y -> z [go]; ring(y, z, x); } else { y -> x [end]; y -> z [end]; } } main { ring(a, b, c); c.v -> a.last; }",
	"main { a.1 -> b.x; a.2 -> c.x; d.3 -> b.y; d.4 -> c.y; b.x + y -> a.z; c.x * y -> d.z; e.v := 5; }",
}

func TestPlays(t *testing.T) { // what follows from P7.3
	for _, s := range plays {
		p, _, err := script.Read(s)
		if err != api.OK {
			t.Fatal(s, err)
		}
		for n := range 4 {
			var first []api.Store
			if n > 0 {
				first = []api.Store{{Role: "a", Vars: []api.Slot{{Name: "v", Value: n}}}, {Role: "b", Vars: []api.Slot{{Name: "w", Value: 3}}}}
			}
			if !played(t, p, first, api.MaxStates) {
				t.Errorf("not all states of %s", s)
			}
		}
	}
}

func TestRandomPlays(t *testing.T) { // what follows from P7.3
	d := &dice{4}
	n := 0
	for range tries / 2 {
		p := d.play()
		parts, _ := project.All(p)
		if played(t, p, d.stores(parts), 500) {
			n++
		}
	}
	if n < tries/4 {
		t.Errorf("only %d networks", n)
	}
}

// played compares the network of a play's projections with its run, if the run ends and the network has not more than most states.
func played(t *testing.T, p api.Play, first []api.Store, most int) bool {
	t.Helper()
	what, _ := script.Text(p)
	parts, err := project.All(p)
	if err != api.OK {
		t.Fatal("no projections:", what, err)
	}
	for room := range 4 {
		_, dead, _ := net.Dead(parts, first, room, most)
		told, _ := net.Explore(parts, first, room, most)
		same(t, fmt.Sprint("dead with room ", room, what), []any{dead, told.Deads}, []any{false, 0})
	}
	last, events, err := run.Run(p, first, 1000)
	ends, endsErr := net.Ends(parts, first, most)
	if err != api.OK || endsErr != api.OK {
		return false
	}
	same(t, "ends of "+what, ends, [][]api.Store{last})
	moves, err := net.Turns(parts, first, api.MaxMoves)
	if err != api.OK {
		t.Fatalf("no end: %s", what)
	}
	for i, choices := range [][]int{{0}, {1000}, {3, 1, 0, 2}, {0, 0, 0, 7}, {5, 4, 3, 2, 1, 0, 0}} {
		stores, own, busy, err := net.Run(parts, first, choices, len(moves))
		same(t, fmt.Sprint("run ", i, " of ", what), []any{stores, busy, err}, []any{last, "[]", api.OK})
		for _, part := range parts {
			got, _ := run.Actions(own, part.Role)
			want, _ := run.Actions(events, part.Role)
			same(t, fmt.Sprint("run ", i, ": actions of ", part.Role, " in ", what), got, want)
		}
		if len(moves) > 0 {
			_, _, _, err = net.Run(parts, first, choices, max(len(moves)-1, 1))
			same(t, fmt.Sprint("moves of run ", i, " of ", what), err == api.OK, len(moves) == 1)
		}
		queues, err := net.Left(parts, first, choices, len(moves)+1)
		same(t, fmt.Sprint("left by run ", i, " of ", what), []any{queues, err}, []any{"[]", api.OK})
	}
	return true
}

func TestMoreRoom(t *testing.T) { // what follows from P7.3
	d := &dice{5}
	n := 0
	for range tries {
		p, s := d.company()
		lively := false // with less room
		for _, room := range []int{1, 2, 3, api.MaxRoom, 0} {
			_, dead, err := net.Dead(p, s, room, 300)
			if err != api.OK {
				continue
			}
			if lively && dead {
				t.Errorf("a deadlock with more room, %d: %s", room, text(t, p))
			}
			if lively = lively || !dead; lively {
				n++
			}
		}
	}
	if n < tries {
		t.Errorf("only %d networks", n)
	}
}

func TestReachedByRuns(t *testing.T) { // P7.2: the functions make the same moves
	d := &dice{6}
	for range tries {
		p, s := d.company()
		moves, err := net.Turns(p, s, 50)
		if err != api.OK {
			continue
		}
		state, events, err := net.Reach(p, s, moves)
		able, ableErr := net.Able(p, s, moves)
		same(t, "at the end of "+text(t, p), []any{err, able, ableErr}, []any{api.OK, "[]", api.OK})
		last, others, busy, err := net.Run(p, s, []int{d.roll(9), d.roll(9)}, 50)
		left, leftErr := net.Left(p, s, []int{d.roll(9)}, 50)
		same(t, "another run of "+text(t, p), []any{last, busy, err, left, leftErr}, []any{storesOf(state), waiting(state), api.OK, state.Queues, api.OK})
		same(t, "as many events", len(others), len(events))
	}
}
