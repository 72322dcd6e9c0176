package project_test

import (
	"fmt"
	"strings"
	"testing"

	"promptbook/api"
	"promptbook/check"
	"promptbook/project"
)

// times writes what f returns for the numbers below n.
func times(n int, f func(i int) string) string {
	var b strings.Builder
	for i := range n {
		b.WriteString(f(i))
	}
	return b.String()
}

// list has n names of roles.
func list(first, n int) string {
	return "(" + strings.TrimSuffix(times(n, func(i int) string { return fmt.Sprintf("r%d,", first+i) }), ",") + ")"
}

// nest is a choice within a choice, and so on.
func nest(deciders, inner string) string {
	all := strings.Fields(deciders)
	for i := range all {
		inner = "if " + all[len(all)-1-i] + ".x {" + inner + "} else { }"
	}
	return inner
}

// tree has choices in both branches of choices.
func tree(depth, first int, deciders []string, leaf func(i int) string) string {
	if depth == 0 {
		return leaf(first)
	}
	half := 1 << (depth - 1)
	return "if " + deciders[depth%len(deciders)] + ".x {" + tree(depth-1, first, deciders, leaf) + "} else {" + tree(depth-1, first+half, deciders, leaf) + "}"
}

// turns has procedures with MaxRoles Params; the call in each one turns them.
func turns(procs int, body string) string {
	return times(procs, func(i int) string {
		turned := strings.Replace(strings.TrimSuffix(list(0, api.MaxRoles), ")")+", r0)", "(r0,", "(", 1)
		return fmt.Sprintf("proc p%d%s { %s p%d%s; }", i, list(0, api.MaxRoles), body, (i+1)%procs, turned)
	}) + "main { p0" + list(0, api.MaxRoles) + "; }"
}

func TestGreatestPlays(t *testing.T) { // Z1: every call returns
	const twelve = api.MaxRoles
	procs := "proc q" + list(0, twelve) + " { } proc s" + list(0, twelve) + " { } "
	send := func(i int) string { return fmt.Sprintf("a.%d -> b.y;", i) }
	call := func(i int) string { return []string{"q", "s"}[i%2] + list(0, twelve) + ";" }
	wide := times(120, func(i int) string { return "q" + list(twelve*i, twelve) + ";" })
	for what, c := range map[string]struct {
		text string
		left int // how many selections Amend adds; -1 if these are too many
	}{
		"choices":                {"main {" + strings.Repeat(example[7:len(example)-2], 500) + "}", 1000},
		"too many choices":       {"main {" + strings.Repeat(example[7:len(example)-2], 900) + "}", -1},
		"choices within one":     {"main { if c.x {" + strings.Repeat(example[7:len(example)-2], 400) + "} else { } }", 804},
		"one told is enough":     {"main { if c.x {" + strings.Repeat("if a.x { a -> b [l]; } else { b -> a [l]; }", 400) + "} else { } }", 404},
		"a tree":                 {"main {" + tree(9, 0, []string{"a", "c", "d"}, send) + "}", 876},
		"a tree of calls":        {procs + "main {" + tree(9, 0, []string{"r0", "r1", "r2"}, call) + "}", -1},
		"a list of calls":        {procs + "main { if r0.x {" + times(900, func(i int) string { return fmt.Sprintf("if r%d.x {", i%3) + call(0) + "} else { }" }) + "} else { } }", -1},
		"deep choices":           {"main { if c.x {" + times(95, func(i int) string { return nest(strings.Repeat("a b c ", 6), send(i)) }) + "} else { } }", -1},
		"many roles":             {procs + "main {" + nest(strings.Repeat("a ", 19), wide) + "}", -1},
		"many roles, another":    {procs + "main {" + nest("c "+strings.Repeat("a ", 18), wide) + "}", -1},
		"many selections":        {"main {" + times(1990, func(i int) string { return fmt.Sprintf("a -> b [l%d];", i) }) + "}", 0},
		"many selections inside": {"main { if a.x { " + strings.Repeat("a -> b [l];", 990) + "} else {" + strings.Repeat("a -> b [l];", 989) + "b.1 -> a.x; } }", 1},
		"turns":                  {turns(50, "r0.1 -> r1.v;"), 0},
		"turns with choices":     {turns(12, "if r0.x { r1.v := 1; } else { }"), 24},
	} {
		p := read(t, c.text)
		same(t, what, check.Check(p), api.OK)
		everything(p, "r3")
		q, n, err := project.Amend(p)
		if c.left < 0 {
			same(t, what+": Amend", []any{q, n, err}, []any{api.Play{}, 0, api.ErrLarge})
			continue
		}
		same(t, what+": Amend", []any{n, err}, []any{c.left, api.OK})
		all, err := project.All(q)
		same(t, what+": All", []any{len(all) > 0, err}, []any{true, api.OK})
		numbers, err := project.Spare(q)
		same(t, what+": Spare", []any{intersect(numbers, addedNumbers(p, q)), err}, []any{[]int{}, api.OK})
	}
}
