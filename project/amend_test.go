package project_test

import (
	"strings"
	"testing"

	"promptbook/api"
	"promptbook/check"
	"promptbook/project"
)

func TestAmend(t *testing.T) { // P5.4
	for _, c := range []struct {
		in, want string
		n        int
	}{
		{"main { }", "main { }", 0},
		{example, "main { if a.x { a -> b [yes]; a.1 -> b.y; } else { a -> b [no]; } }", 2},
		// What can be projected stays.
		{"main { if a.x { a -> b [l]; a.1 -> b.y; } else { a -> b [m]; } }", "main { if a.x { a -> b [l]; a.1 -> b.y; } else { a -> b [m]; } }", 0},
		{"main { if a.x { a -> b [l]; } else { a -> b [l]; } a -> b [m]; }", "main { if a.x { a -> b [l]; } else { a -> b [l]; } a -> b [m]; }", 0},
		// One that is not needed is left out.
		{"main { if a.x { a -> b [one]; } else { b.1 -> a.y; } }", "main { if a.x { a -> b [one]; } else { a -> b [no]; b.1 -> a.y; } }", 1},
		{"main { if a.x { b.1 -> a.y; } else { a -> b [one]; } }", "main { if a.x { a -> b [yes]; b.1 -> a.y; } else { a -> b [one]; } }", 1},
		{"main { if a.x { a -> b [no]; b.x := 1; } else { b.x := 1; } }", "main { if a.x { a -> b [no]; b.x := 1; } else { a -> b [no]; b.x := 1; } }", 1},
		{"main { if a.x { a -> b [no]; b.x := 1; } else { b.x := 2; } }", "main { if a.x { a -> b [yes]; a -> b [no]; b.x := 1; } else { a -> b [no]; b.x := 2; } }", 2},
		{"main { if a.x { a -> b [l]; b.x := 1; } else { a -> b [l]; b.x := 2; } }", "main { if a.x { a -> b [l]; b.x := 1; } else { a -> b [no]; a -> b [l]; b.x := 2; } }", 1},
		// The roles of Main rise; those of a procedure are in the order of its Params, called or not.
		{"main { if b.x { c.x := 1; aa.x := 1; a.x := 1; } else { } }", "main { if b.x { b -> a [yes]; b -> aa [yes]; b -> c [yes]; c.x := 1; aa.x := 1; a.x := 1; } else { b -> a [no]; b -> aa [no]; b -> c [no]; } }", 6},
		{"proc p(z, a, y) { if a.v { y.v := 1; z.v := 1; } else { } } main { a.x := 1; }", "proc p(z, a, y) { if a.v { a -> z [yes]; a -> y [yes]; y.v := 1; z.v := 1; } else { a -> z [no]; a -> y [no]; } } main { a.x := 1; }", 4},
		{"proc p(x, y) { if x.v { y.v := 1; } else { } } main { p(a, b); if b.x { } else { a.x := 1; } }", "proc p(x, y) { if x.v { x -> y [yes]; y.v := 1; } else { x -> y [no]; } } main { p(a, b); if b.x { b -> a [yes]; } else { b -> a [no]; a.x := 1; } }", 4},
		// From inside to outside: the outer choice needs one selection alone, since the inner one tells already.
		{"main { if a.x { if a.y { b.x := 1; } else { } } else { } }", "main { if a.x { if a.y { a -> b [yes]; b.x := 1; } else { a -> b [no]; } } else { a -> b [no]; } }", 3},
		{"main { if c.x { if a.y { b.x := 1; } else { } } else { } }", "main { if c.x { c -> a [yes]; c -> b [yes]; if a.y { a -> b [yes]; b.x := 1; } else { a -> b [no]; } } else { c -> a [no]; c -> b [no]; } }", 6},
		{"main { if a.x { a.1 -> b.y; } else { } if a.x { } else { a.1 -> b.y; } }", "main { if a.x { a -> b [yes]; a.1 -> b.y; } else { a -> b [no]; } if a.x { a -> b [yes]; } else { a -> b [no]; a.1 -> b.y; } }", 4},
		// Who decides the inner choice and tells there can be blind because of that, and not before.
		{"main { if c.x { if a.y { b.x := 1; } else { } } else { if a.y { } else { } } }", "main { if c.x { c -> a [yes]; c -> b [yes]; if a.y { a -> b [yes]; b.x := 1; } else { a -> b [no]; } } else { c -> a [no]; c -> b [no]; if a.y { } else { } } }", 6},
		// What is put at the beginning can be what another branch has there, so that nobody else is blind then.
		{"main { if c.x { if a.y { a.1 -> d.v; b.x := 1; } else { a.1 -> d.v; } } else { if a.y { a -> b [yes]; a.1 -> d.v; b.x := 1; } else { a -> b [no]; a.1 -> d.v; } } }", "main { if c.x { if a.y { a -> b [yes]; a.1 -> d.v; b.x := 1; } else { a -> b [no]; a.1 -> d.v; } } else { if a.y { a -> b [yes]; a.1 -> d.v; b.x := 1; } else { a -> b [no]; a.1 -> d.v; } } }", 2},
	} {
		p := read(t, c.in)
		q, n, err := project.Amend(p)
		same(t, c.in, []any{words(t, q), n, err}, []any{words(t, read(t, c.want)), c.n, api.OK})
		_, err = project.All(q)
		same(t, "All of "+words(t, q), err, api.OK)
	}
}

func TestAmendAgain(t *testing.T) { // P5.4: when one has been left out, an earlier one can be left out, too
	const in = "main { if a.x { if a.v { b.1 -> a.y; } else { a -> b [l]; } } else { b.1 -> a.y; } }"
	// At first: [yes] of the outer choice is needed, since [no] of the inner one tells something else than [no] of the outer one. Behind it, [no] of the inner choice is left out.
	q, n, err := project.Amend(read(t, in))
	same(t, in, []any{words(t, q), n, err}, []any{"main { if a.x { if a.v { a -> b [yes]; b.1 -> a.y; } else { a -> b [l]; } } else { a -> b [no]; b.1 -> a.y; } }", 2, api.OK})
}

func TestAmendNeverTooMuch(t *testing.T) { // P5.4
	fill := func(n int) string {
		return "main { " + example[7:len(example)-2] + strings.Repeat(" a.x := 1;", n) + " }"
	}
	for n, want := range map[int]api.Errno{api.MaxSteps - 4: api.OK, api.MaxSteps - 3: api.ErrLarge, api.MaxSteps - 2: api.ErrLarge} {
		p := read(t, fill(n))
		same(t, "before", check.Check(p), api.OK)
		q, k, err := project.Amend(p)
		same(t, "steps", err, want)
		if err != api.OK {
			same(t, "with an error", []any{q, k}, []any{api.Play{}, 0})
			continue
		}
		steps, err := check.Steps(q)
		same(t, "steps", []any{steps, err, k}, []any{api.MaxSteps, api.OK, 2})
	}
	// Only what is left at the end counts.
	p := read(t, "main { if a.x { a -> b [one]; } else { b.1 -> a.y; }"+strings.Repeat(" a.x := 1;", api.MaxSteps-4)+" }")
	q, k, err := project.Amend(p)
	steps, _ := check.Steps(q)
	same(t, "one left out", []any{steps, k, err}, []any{api.MaxSteps, 1, api.OK})
	_, _, err = project.Amend(read(t, "main { p(a); }"))
	same(t, "not well formed", err, api.ErrNone)
}

func TestSpare(t *testing.T) { // P5.4
	for _, c := range []struct {
		text string
		want []int
		err  api.Errno
	}{
		{"main { }", nil, api.OK},
		{example, nil, api.ErrRule},
		{"proc p(x, y) { if x.v { y.v := 1; } else { } } main { a -> b [l]; }", nil, api.ErrRule},
		{"main { a.x := 1; a -> b [l]; b -> a [l]; }", []int{1, 2}, api.OK},
		{"main { if a.x { a -> b [one]; } else { a -> b [one]; } }", nil, api.OK},
		{"main { if a.x { a -> b [l]; a.1 -> b.y; } else { a -> b [m]; } }", nil, api.OK},
		{"main { if a.x { a -> b [l]; a -> b [l]; } else { a -> b [m]; a -> b [m]; } }", []int{1, 2, 3, 4}, api.OK},
		{"main { if a.x { a -> b [l]; a -> b [l]; } else { a -> b [m]; } }", []int{1, 2}, api.OK},
		{"main { if b.x { a -> b [l]; } else { b.1 -> a.x; } }", nil, api.ErrRule},
		{"main { if b.x { b -> a [l]; a -> b [l]; } else { b -> a [m]; b.1 -> a.x; } }", []int{2}, api.OK},
		{"main { if c.x { a -> b [l]; } else { a -> b [l]; } if c.x { a.1 -> b.x; } else { a.1 -> b.x; } }", nil, api.OK},
		// Who tells has to do the same on both sides, too.
		{"main { if c.x { if a.y { a -> b [l]; } else { a -> b [m]; } } else { if a.y { a -> b [m]; } else { a -> b [m]; } } }", nil, api.ErrRule},
		{"main { if c.x { c -> a [k]; if a.y { a -> b [l]; } else { a -> b [m]; } } else { c -> a [n]; if a.y { a -> b [m]; } else { a -> b [m]; } } }", nil, api.OK},
		{"main { if a.x { a -> b [l]; b -> a [l]; b.x := 1; } else { a -> b [m]; b -> a [l]; } }", []int{2, 5}, api.OK},
		// Procedures that nobody calls count, and have numbers behind those of Main.
		{"proc p(x, y) { x -> y [l]; if x.v { x -> y [l]; y.v := 1; } else { x -> y [m]; } } main { a -> b [l]; p(a, b); } ", []int{0, 2}, api.OK},
		{"proc p(x, y) { if x.v { x -> y [l]; } else { x -> y [m]; } x -> y [m]; } main { a.x := 1; } ", []int{4}, api.OK},
	} {
		got, err := project.Spare(read(t, c.text))
		same(t, c.text, []any{got, err}, []any{c.want, c.err})
	}
	_, err := project.Spare(read(t, "main { p(a); if a.x { b.x := 1; } else { } }"))
	same(t, "not well formed", err, api.ErrNone)
}

func TestPlain(t *testing.T) { // P5.4
	for _, c := range []struct {
		in, want string
		n        int
	}{
		{"main { }", "main { }", 0},
		{example, example, 0},
		{"main { a -> b [l]; }", "main { }", 1},
		{"main { a -> b [l]; if a.x { a -> b [l]; a.1 -> b.x; a -> c [m]; } else { if b.x { } else { a -> b [l]; } a -> b [l]; } b -> a [l]; }", "main { if a.x { a.1 -> b.x; } else { if b.x { } else { } } }", 6},
		{"proc p(x, y) { x -> y [l]; x.v := 1; } proc q(x, y) { y -> x [l]; } main { p(a, b); a -> b [l]; q(a, b); }", "proc p(x, y) { x.v := 1; } proc q(x, y) { } main { p(a, b); q(a, b); }", 3},
	} {
		q, n, err := project.Plain(read(t, c.in))
		same(t, c.in, []any{words(t, q), n, err}, []any{words(t, read(t, c.want)), c.n, api.OK})
	}
	_, _, err := project.Plain(read(t, "main { p(a); a -> b [l]; }"))
	same(t, "not well formed", err, api.ErrNone)
}
