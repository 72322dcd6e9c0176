package project_test

import (
	"strings"
	"testing"

	"promptbook/api"
	"promptbook/project"
)

func TestBlind(t *testing.T) { // P5.3
	const procs = `
proc p(x, y) { if x.v { x.1 -> y.v; } else { } q(y, x); }
proc q(x, y) { if x.v { } else { y.v := 1; } if y.v { } else { x.v := 1; } }
proc r(x, y, z) { if x.v { y.v := 1; z.v := 1; } else { } r(x, z, y); }
proc s(x) { s(x); } `
	for _, c := range []struct {
		main, role string
		want       []int
	}{
		{"a.x := 1;", "a", nil},
		{"if a.x { a.1 -> b.y; } else { }", "b", []int{0}},
		{"if a.x { a.1 -> b.y; } else { }", "a", nil},
		{"if a.x { a.1 -> b.y; } else { } b.x := 1;", "b", []int{0}},
		{"if a.x { a.1 -> b.y; } else { } if a.x { } else { b.x := 1; } if a.x { b.x := 1; } else { b.x := 1; }", "b", []int{0, 2}},
		// What is around a choice that is blind is not blind: it has no projection.
		{"if a.x { if a.y { b.x := 1; } else { } } else { }", "b", []int{1}},
		{"if c.x { if a.y { b.x := 1; } else { } } else { if a.y { } else { b.x := 1; } }", "b", []int{1, 3}},
		{"if b.x { if a.y { b.x := 1; } else { } } else { }", "b", []int{1}},
		{"if a.x { if c.x { b.x := 1; } else { b.x := 1; } } else { }", "b", []int{0}},
		{"if a.x { c.x := 1; } else { b.x := 1; } if a.x { b.x := 1; c.x := 2; } else { b.x := 1; }", "c", []int{0, 3}},
		{"a -> b [l]; if a.x { b.x := 1; } else { }", "b", []int{1}},
		// Procedures: p has the numbers from 1 on, q from 4, r from 8, s 12.
		{"p(a, b);", "a", []int{4}},
		{"p(a, b);", "b", []int{1, 6}},
		{"q(a, b);", "a", []int{6}},
		{"q(a, b);", "b", []int{4}},
		{"r(a, b, c);", "a", nil},
		{"r(a, b, c);", "b", []int{8}},
		{"r(a, b, c);", "c", []int{8}},
		{"s(a);", "a", nil},
	} {
		got, err := project.Blind(read(t, procs+"main { "+c.main+" }"), c.role)
		same(t, c.main+" "+c.role, []any{got, err}, []any{c.want, api.OK})
	}
}

func TestBlindWhereNothingIsProjected(t *testing.T) { // P5.3: a role gets into what its steps call, with or without a projection
	p := read(t, "proc p(x, y) { if x.v { if x.w { q(y, x); } else { } } else { } } proc q(x, y) { if y.v { x.v := 1; } else { } } main { if a.v { p(a, b); } else { } }")
	got, err := project.Blind(p, "b")
	same(t, "b", []any{got, err}, []any{[]int{0, 3, 5}, api.OK})
	got, err = project.Blind(p, "a")
	same(t, "a", []any{got, err}, []any{[]int{}, api.OK})
	p.Main = nil
	got, err = project.Blind(p, "a")
	same(t, "no role", []any{got, err}, []any{[]int{}, api.ErrNone})
}

func TestBlindErrors(t *testing.T) { // P5.5
	p := read(t, example)
	for role, want := range map[string]api.Errno{"": api.ErrName, "B": api.ErrName, "main": api.ErrName, "c": api.ErrNone, "y": api.ErrNone, "b": api.OK, "a": api.OK} {
		_, err := project.Blind(p, role)
		same(t, role, err, want)
	}
	_, err := project.Blind(read(t, "main { a.x -> a.y; }"), "B")
	same(t, "not well formed", err, api.ErrTwice)
}

func TestNeeds(t *testing.T) { // P5.3
	for text, want := range map[string][]api.Pair{
		"main { }": nil,
		example:    {{Name: "b", Value: "0"}},
		"proc p(x, y) { if x.v { y.v := 1; } else { } } main { p(a, b); }":                                                       nil,
		"main { if a.x { b.x := 1; c.x := 1; } else { a.x := 1; } if b.x { a.x := 1; } else { } if c.x { b.x := 1; } else { } }": {{Name: "a", Value: "4"}, {Name: "b", Value: "0"}, {Name: "b", Value: "6"}, {Name: "c", Value: "0"}},
		"main { if a.x { if b.x { c.x := 1; a.x := 1; } else { } } else { } }":                                                   {{Name: "a", Value: "1"}, {Name: "b", Value: "0"}, {Name: "c", Value: "1"}},
	} {
		got, err := project.Needs(read(t, text))
		same(t, text, []any{got, err}, []any{want, api.OK})
	}
	// Numbers rise as numbers.
	got, err := project.Needs(read(t, "main {"+strings.Repeat("if a.x { b.x := 1; } else { }", 6)+"}"))
	same(t, "many", []any{got, err}, []any{"[{b 0} {b 2} {b 4} {b 6} {b 8} {b 10}]", api.OK})
	_, err = project.Needs(read(t, "main { p(a); }"))
	same(t, "not well formed", err, api.ErrNone)
}
