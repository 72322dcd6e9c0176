package run_test

import (
	"fmt"
	"slices"
	"testing"

	"promptbook/api"
	"promptbook/check"
	"promptbook/run"
)

func TestSources(t *testing.T) { // P4.5
	for _, c := range []struct{ what, text, first, of, want string }{
		{"the example, z", example, "", "b.z", "b.z"},
		{"the example, y", example, "", "b.y", ""},
		{"the example, x", example, "", "a.x", ""},
		{"x is not set, y", "main { a.x + 1 -> b.y; if b.y < 5 { b.z := 1; } else { } }", "a.x=7", "b.y", "a.x"},
		{"x is not set, z", "main { a.x + 1 -> b.y; if b.y < 5 { b.z := 1; } else { } }", "a.x=7", "b.z", "a.x b.z"},
		{"x is not set, z is", "main { a.x + 1 -> b.y; if b.y < 5 { b.z := 1; } else { } }", "a.x=1", "b.z", "a.x"},
		{"nothing is done", "main { }", "", "a.x", "a.x"},
		{"a role that is not there", "main { a.x := 1; }", "", "c.x", "c.x"},
		{"a variable that is not there", "main { a.x := 1; }", "", "a.y", "a.y"},
		{"its own", "main { a.x := x + 1; }", "", "a.x", "a.x"},
		{"all that are named", "main { a.x := b ? c : d * 0; }", "", "a.x", "a.b a.c a.d"},
		{"of its role alone", "main { a.x := y; b.x := y; }", "", "b.x", "b.y"},
		{"by Role, then Name", "main { c.z + y -> b.v; a.z -> b.w; a.y + x -> b.u; b.x := u + v + w + z; }", "", "b.x", "a.x a.y a.z b.z c.y c.z"},
		{"the value at the time", "main { a.x := y; a.y := z; a.z := 1; }", "", "a.x", "a.y"},
		{"one after the other", "main { a.y := z; a.x := y; }", "", "a.x", "a.z"},
		{"set again", "main { a.x := y; a.x := 1; }", "", "a.x", ""},
		{"exchanged", "main { a.z := x; a.x := y; a.y := z; }", "", "a.x", "a.y"},
		{"sent", "main { a.x -> b.x; b.x -> c.x; c.x + y -> a.y; }", "", "a.y", "a.x c.y"},
		{"told", "main { a -> b [x]; }", "", "b.x", "b.x"},
		// choices
		{"in Then", "main { if a.c { a.x := y; } else { } }", "a.c=1", "a.x", "a.c a.y"},
		{"in Else", "main { if a.c { } else { a.x := y; } }", "", "a.x", "a.c a.y"},
		{"in Then, not done", "main { if a.c { a.x := y; } else { } }", "", "a.x", "a.c a.x"},
		{"in Else, not done", "main { if a.c { } else { a.x := y; } }", "a.c=1", "a.x", "a.c a.x"},
		{"of another role", "main { if a.c { b.x := 1; } else { } }", "a.c=1", "b.x", "a.c"},
		{"sent, not done", "main { if a.c { a.y -> b.x; } else { } }", "", "b.x", "a.c b.x"},
		{"Role of what is sent", "main { if a.c { a.y -> b.x; } else { } }", "", "a.x", "a.x"},
		{"not in the branches", "main { if a.c { a.x := 1; } else { } }", "a.c=1", "a.y", "a.y"},
		{"another role in the branches", "main { if a.c { a.x := 1; } else { } }", "", "b.x", "b.x"},
		{"before the choice", "main { a.x := 1; if a.c { a.x := 2; } else { } }", "", "a.x", "a.c"},
		{"behind the choice", "main { if a.c { a.x := 2; } else { } a.x := 1; }", "a.c=1", "a.x", ""},
		{"the choice as it was decided", "main { if a.c { a.c := d; a.x := 1; } else { } }", "a.c=1", "a.x", "a.c"},
		{"what decides is set, and can be", "main { if a.c { a.c := d; } else { } }", "a.c=1", "a.c", "a.c a.d"},
		{"G is the sources when it was decided", "main { a.c := b; if a.c { a.c := d; a.x := e; } else { } }", "a.b=1", "a.x", "a.b a.e"},
		{"within one another", "main { if a.c { if b.d { b.x := e; } else { } } else { } }", "a.c=1 b.d=1", "b.x", "a.c b.d b.e"},
		{"within one another, inner not done", "main { if a.c { if b.d { b.x := e; } else { } } else { } }", "a.c=1", "b.x", "a.c b.d b.x"},
		{"within one another, outer not done", "main { if a.c { if b.d { b.x := e; } else { } } else { } }", "", "b.x", "a.c b.x"},
		{"one after the other, choices", "main { if a.c { a.x := 1; } else { } if a.d { } else { a.y := x; } }", "a.c=1", "a.y", "a.c a.d"},
		{"set by a choice, then read", "main { if a.c { a.x := 1; } else { } a.y := x; }", "", "a.y", "a.c a.x"},
		{"what is set in it is sent later", "main { if a.c { a.x := y; } else { a.x := z; } a.x -> b.x; }", "a.c=1", "b.x", "a.c a.y"},
		{"an empty choice", "main { if a.c { } else { } }", "", "a.x", "a.x"},
		{"a choice by a number", "main { if a.1 { a.x := y; } else { } }", "", "a.x", "a.y"},
		{"inner set adds no more than it reads", "main { if a.c { a.x := 1; a.y := 2; } else { } }", "a.c=1", "a.y", "a.c"},
		{"set before an inner choice", "main { if a.c { a.x := y; if a.d { a.z := 1; } else { } } else { } }", "a.c=1 a.d=1", "a.x", "a.c a.y"},
		{"an inner choice by what an outer one set", "main { if a.c { a.d := e; if a.d { a.x := 1; } else { } } else { } }", "a.c=1 a.e=1", "a.x", "a.c a.e"},
		// procedures
		{"a body", "proc p(x, y) { x.v -> y.w; } main { p(b, a); }", "", "a.w", "b.v"},
		{"a body in a choice", "proc p(y) { y.w := v; } main { if a.c { p(b); } else { } }", "a.c=1", "b.w", "a.c b.v"},
		{"a body not done", "proc p(y) { y.w := v; } main { if a.c { p(b); } else { } }", "", "b.w", "a.c b.w"},
		{"the role that does not stand for it", "proc p(x, y) { y.w := v; } main { if a.c { p(b, a); } else { } }", "", "b.w", "b.w"},
		{"by way of others", "proc p(x, y) { q(y, x); } proc q(x, y) { if y.c { r(y); } else { } } proc r(x) { x.w := 1; } main { if a.c { p(b, d); } else { } }", "", "b.w", "a.c b.w"},
		{"by way of others, the other role", "proc p(x, y) { q(y, x); } proc q(x, y) { if y.c { r(y); } else { } } proc r(x) { x.w := 1; } main { if a.c { p(b, d); } else { } }", "", "d.w", "d.w"},
		{"by way of itself, turned", "proc p(x, y, z) { if x.c { p(y, z, x); } else { x.w := 1; } } main { if a.c { p(a, b, d); } else { } }", "", "d.w", "a.c d.w"},
		{"a choice in a body is left at its end", "proc p(x, y) { if x.c { q(x, y); } else { y.w := 1; } y.u := w; } proc q(x, y) { y.w := v; } main { p(a, b); }", "a.c=1", "b.u", "a.c b.v"},
		{"a choice is left behind its last call", "proc p(x) { if x.n { x.n := n - 1; p(x); } else { } x.m := k; } main { p(a); }", "a.n=1", "a.m", "a.k"},
		{"behind a choice within a choice", "proc p(x) { if x.n { x.n := n - 1; p(x); } else { x.m := l; } x.m := m + k; } main { p(a); }", "a.n=1", "a.m", "a.k a.l a.n"},
		{"Params called like roles", "proc p(b, a) { if b.c { a.x := y; } else { } } main { p(a, b); }", "a.c=1", "b.x", "a.c b.y"},
	} {
		v := variable(c.of)
		l, err := run.Sources(read(t, c.text), stores(c.first), api.MaxFuel, v.Role, v.Name)
		same(t, c.what, []any{l, err}, []any{vars(c.want), api.OK})
	}
}

func TestSourcesErrors(t *testing.T) { // P4.5, Z4
	good := read(t, example)
	for _, c := range []struct {
		what       string
		first      string
		fuel       int
		role, name string
		want       api.Errno
	}{
		{"right", "", 3, "a", "x", api.OK},
		{"no role", "", 3, "", "x", api.ErrName},
		{"a wrong role", "", 3, "A", "x", api.ErrName},
		{"no name", "", 3, "a", "", api.ErrName},
		{"a wrong name", "", 3, "a", "if", api.ErrName},
		{"not enough fuel first", "", 2, "a", "if", api.ErrFull},
		{"wrong fuel first", "", -1, "A", "x", api.ErrArg},
		{"stores first", "b.x=1 a.x=1", 3, "A", "x", api.ErrOrder},
		{"roles first", "z.x=1", 3, "A", "x", api.ErrNone},
	} {
		l, err := run.Sources(good, stores(c.first), c.fuel, c.role, c.name)
		same(t, c.what, []any{l, err}, []any{[]api.Var{}, c.want})
	}
	l, err := run.Sources(api.Play{Main: []api.Step{{}}}, nil, 3, "A", "x")
	same(t, "no play", []any{l, err}, []any{[]api.Var{}, api.ErrKind})
}

func TestSourcesOfRandom(t *testing.T) { // P4.5
	trials(t, &dice{4}, 2500, func(c trial) {
		for _, role := range []string{"a", "b", "c", "x"} {
			for _, name := range names {
				l, err := run.Sources(c.play, c.first, c.fuel, role, name)
				v := api.Var{Role: role, Name: name}
				what := fmt.Sprint(v, " of ", c.what)
				if c.told.full {
					same(t, what, []any{l, err}, []any{[]api.Var{}, api.ErrFull})
				} else {
					same(t, what, []any{l, err}, []any{sorted(c.told.of(v)), api.OK})
				}
			}
		}
	})
}

func TestNothingButSourcesMatters(t *testing.T) { // P4.5, what follows
	d := &dice{5}
	compared := 0
	trials(t, d, 1500, func(c trial) {
		if c.told.full || len(c.roles) == 0 {
			return
		}
		v := api.Var{Role: d.pick(c.roles...), Name: d.pick(names...)}
		l, _ := run.Sources(c.play, c.first, c.fuel, v.Role, v.Name)
		for range 5 {
			other := d.stores(c.roles)
			for _, source := range l {
				if slices.Contains(c.roles, source.Role) {
					n, _ := run.Value(c.first, source.Role, source.Name)
					other, _ = run.With(other, source.Role, source.Name, n)
				}
			}
			end, _, err := run.Run(c.play, other, 2000)
			if err == api.OK {
				compared++
				n, _ := run.Value(end, v.Role, v.Name)
				same(t, fmt.Sprint(v, " of ", c.what, " and ", other), n, c.told.vars[v])
			}
		}
	})
	if compared < 3000 {
		t.Errorf("just %d runs were compared", compared)
	}
}

func TestReadsBeforeSetsAreEarly(t *testing.T) { // P4.2, and what follows in chapter 2
	trials(t, &dice{6}, 500, func(c trial) {
		inlined, err := check.Inlined(c.play)
		if err != api.OK || len(inlined.Procs) > 0 {
			return // in Main alone the roles of steps are those of the run
		}
		early, _ := check.Early(inlined)
		known := set{}
		for _, e := range early {
			known[api.Var{Role: e.Role, Name: e.Name}] = true
		}
		for v := range c.told.early {
			if !known[v] {
				t.Errorf("%v is read before it is set, but not early: %s", v, c.what)
			}
		}
	})
}
