package check_test

import (
	"math"
	"slices"
	"strings"
	"testing"

	"promptbook/api"
	"promptbook/check"
	"promptbook/script"
)

// formed are plays that script.CheckPlay lets pass, and what Check finds in them.
var formed = []struct {
	what, text string
	want       api.Errno
}{
	{"nothing", "main { }", api.OK},
	{"the example", example, api.OK},
	{"all kinds", "proc p(x) { x.v := 1; } main { a.1 -> b.v; a -> b [l]; a.v := 1; if a.1 { } else { } p(a); }", api.OK},
	{"any roles in Main", "main { a.v := 1; b.v := 1; c -> d [l]; }", api.OK},
	{"Role of a set", "proc p(x) { y.v := 1; } main { }", api.ErrName},
	{"Role of a choice", "proc p(x) { if y.v { } else { } } main { }", api.ErrName},
	{"Role of a send", "proc p(x) { y.1 -> x.v; } main { }", api.ErrName},
	{"To of a send", "proc p(x) { x.1 -> y.v; } main { }", api.ErrName},
	{"Role of a tell", "proc p(x) { y -> x [l]; } main { }", api.ErrName},
	{"To of a tell", "proc p(x) { x -> y [l]; } main { }", api.ErrName},
	{"the first one of Args", "proc p(x, y) { p(z, y); } main { }", api.ErrName},
	{"the last one of Args", "proc p(x, y) { p(x, z); } main { }", api.ErrName},
	{"in Then", "proc p(x) { if x.v { y.v := 1; } else { } } main { }", api.ErrName},
	{"in Else", "proc p(x) { if x.v { } else { y.v := 1; } } main { }", api.ErrName},
	{"Params of another one", "proc p(x) { } proc q(y) { x.v := 1; } main { }", api.ErrName},
	{"a role of Main", "proc p(x) { a.v := 1; } main { p(a); }", api.ErrName},
	{"a send to oneself", "main { a.1 -> a.v; }", api.ErrTwice},
	{"a tell to oneself", "main { a -> a [l]; }", api.ErrTwice},
	{"to oneself in a procedure", "proc p(x) { x -> x [l]; } main { }", api.ErrTwice},
	{"to oneself in Else", "main { if a.v { } else { a.1 -> a.v; } }", api.ErrTwice},
	{"no procedure", "main { p(a); }", api.ErrNone},
	{"no such procedure", "proc p(x) { } main { p(a); q(a); }", api.ErrNone},
	{"no such procedure in one", "proc p(x) { q(x); } main { }", api.ErrNone},
	{"a later procedure", "proc p(x) { q(x); } proc q(x) { } main { }", api.OK},
	{"too few Args", "proc p(x, y) { } main { p(a); }", api.ErrForm},
	{"too many Args", "proc p(x, y) { } main { p(a, b, c); }", api.ErrForm},
	{"Args of another one", "proc q(x) { } proc p(x, y) { } main { p(a, b); q(a, b); }", api.ErrForm},
	{"same Args", "proc p(x, y) { } main { p(a, a); }", api.ErrTwice},
	{"same Args, not next to each other", "proc p(x, y, z) { } main { p(a, b, a); }", api.ErrTwice},
	{"same Args in a procedure", "proc p(x, y) { p(y, y); } main { }", api.ErrTwice},
	{"other Args", "proc p(x, y) { p(y, x); } main { p(b, a); }", api.OK},

	// The order of the errors.
	{"ErrName before ErrTwice", "proc p(x) { y -> y [l]; } main { }", api.ErrName},
	{"ErrName before ErrNone", "proc p(x) { q(y); } main { }", api.ErrName},
	{"ErrName before ErrForm", "proc p(x) { p(y, z); } main { }", api.ErrName},
	{"ErrNone before ErrForm and ErrTwice", "main { p(a, a); }", api.ErrNone},
	{"ErrForm before ErrTwice", "proc p(x, y, z) { } main { p(a, a); }", api.ErrForm},
	{"Main before procedures", "proc p(x) { y.v := 1; } main { a -> a [l]; }", api.ErrTwice},
	{"the first step first", "main { p(a); a -> a [l]; }", api.ErrNone},
	{"the first procedure first", "proc p(x) { q(x, x); } proc q(x) { y.v := 1; } main { }", api.ErrForm},
	{"a step before those within it", "proc p(x) { if y.v { x -> x [l]; } else { } } main { }", api.ErrName},
	{"Then before Else", "proc p(x) { if x.v { x -> x [l]; } else { y.v := 1; } } main { }", api.ErrTwice},
	{"Else before the next step", "main { if x.v { } else { x -> x [l]; } p(a); }", api.ErrTwice},
}

func TestCheck(t *testing.T) { // P2.1
	for _, c := range formed {
		p := read(t, c.text)
		same(t, c.what, check.Check(p), c.want)
	}
}

// unformed are no plays.
func unformed() []api.Play {
	tell := api.Step{Kind: api.StepTell, Role: "a", To: "a", Label: "l"}
	bad := api.Step{Kind: api.StepSet, Role: "a", Var: "v", Expr: number(-1)}
	deep := []api.Step{tell}
	for range api.MaxDepth {
		deep = []api.Step{{Kind: api.StepIf, Role: "a", Expr: number(1), Else: deep}}
	}
	return []api.Play{
		{Procs: make([]api.Proc, api.MaxProcs+1)},
		{Procs: []api.Proc{{Key: "p"}}},
		{Procs: []api.Proc{{Key: "main", Params: []string{"x"}}}},
		{Procs: []api.Proc{{Key: "p", Params: []string{"x", "x"}}}},
		{Main: []api.Step{{}}},
		{Main: []api.Step{tell, bad}},
		{Main: []api.Step{{Kind: api.StepTell, Role: "a", To: "", Label: "l"}}},
		{Main: []api.Step{{Kind: api.StepSet, Role: "a", Var: "v", Expr: number(1), Proc: "p"}}},
		{Main: slices.Repeat([]api.Step{tell}, api.MaxSteps+1)},
		{Main: deep},
		{Main: []api.Step{{Kind: api.StepCall, Proc: "p"}}},
	}
}

func TestFirstErrors(t *testing.T) { // P2.1: script.CheckPlay's errors come first, and all functions first return Check's; Z3: the rest is zero
	wrong := []api.Pair{{Name: "nobody", Value: "NO"}}
	ask := func(p api.Play, want api.Errno) {
		t.Helper()
		for _, n := range []int{math.MinInt, -1, 0, 1, math.MaxInt} {
			same(t, "all functions", everything(p, wrong, n), nothing(want))
			same(t, "all functions", everything(p, nil, n), nothing(want))
		}
	}
	for _, p := range unformed() {
		want := script.CheckPlay(p)
		if want == api.OK {
			t.Error("this is a play")
		}
		ask(p, want)
	}
	for _, c := range formed {
		if c.want != api.OK {
			ask(read(t, c.text), c.want)
		}
	}
}

// numbers has steps within steps, in Main and in procedures; the variables count the steps.
const numbers = `
proc p(x) { if x.n8 { x.n9 := 9; x.n10 := 10; } else { x.n11 := 11; } x.n12 := 12; }
proc nothing(x) { }
proc q(x, y) { x.n13 -> y.n13; }
main {
  a.n0 := 0;
  if a.n1 { if a.n2 { a.n3 := 3; } else { a.n4 := 4; } a.n5 := 5; } else { a.n6 := 6; }
  b.n7 -> a.n7;
}`

func TestNumbers(t *testing.T) { // P2.1
	p := read(t, numbers)
	n, err := check.Steps(p)
	same(t, "Steps", []any{n, err}, []any{14, api.OK})
	for i, name := range manyNames(14) {
		s, key, err := check.Step(p, i)
		names := s.Var
		if names == "" {
			names = s.Expr.Name
		}
		same(t, "Step", []any{names, err}, []any{name, api.OK})
		want := ""
		switch {
		case i >= 13:
			want = "q"
		case i >= 8:
			want = "p"
		}
		same(t, "the procedure of "+name, key, want)
	}
	for _, k := range []int{math.MinInt, -1, 14, 15, math.MaxInt} {
		s, key, err := check.Step(p, k)
		same(t, "no step", []any{s, key, err}, []any{api.Step{}, "", api.ErrArg})
	}
	s, _, _ := check.Step(p, 1)
	same(t, "a step with those within it", words(t, api.Play{Main: []api.Step{s}}), "main { if a.n1 { if a.n2 { a.n3 := 3; } else { a.n4 := 4; } a.n5 := 5; } else { a.n6 := 6; } }")
	n, err = check.Steps(api.Play{})
	same(t, "Steps of nothing", []any{n, err}, []any{0, api.OK})
	_, _, err = check.Step(api.Play{}, 0)
	same(t, "Step of nothing", err, api.ErrArg)
}

func TestGreatPlays(t *testing.T) { // P2.1: MaxSteps, MaxProcs, MaxRoles and MaxDepth are still right
	const step = "a.v := 1;"
	p := read(t, "main {"+strings.Repeat(step, api.MaxSteps)+"}")
	n, err := check.Steps(p)
	same(t, "MaxSteps", []any{n, err}, []any{api.MaxSteps, api.OK})
	_, _, err = check.Step(p, api.MaxSteps-1)
	same(t, "the last step", err, api.OK)
	names := manyNames(api.MaxRoles)
	list := "(" + strings.Join(names, ",") + ")"
	text := ""
	for _, key := range manyNames(api.MaxProcs) {
		text += "proc " + key + list + "{ n0" + list + ";}"
	}
	same(t, "MaxProcs", check.Check(read(t, text+"main { n49"+list+"; }")), api.OK)
	deep := strings.Repeat("if a.1 {} else {", api.MaxDepth-1) + "b -> b [l];" + strings.Repeat("}", api.MaxDepth-1)
	same(t, "MaxDepth", check.Check(read(t, "main {"+deep+"}")), api.ErrTwice)
}
