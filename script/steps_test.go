package script_test

import (
	"math"
	"strings"
	"testing"

	"promptbook/api"
	"promptbook/script"
)

// linesOfShop are those in which the steps of shop begin, by their numbers.
var linesOfShop = []int{15, 16, 17, 19, 21, 23, 25, 1, 2, 3, 4, 6, 12}

func TestRoles(t *testing.T) { // P1.2
	for s, want := range map[string]string{
		shop:                               "ann bob cid dan eve fay",
		"main { }":                         "",
		"proc p(a) { a.x := 1; } main { }": "",
		"main { b.1 -> a.x; c -> a [l]; }": "a b c",
		"main { z.x := y; }":               "z",
		"main { p(y, b, y, a1, a_, a); }":  "a a1 a_ b y",
		"main { if b.1 { a.x := 1; } else { c.x := 1; if d.1 { } else { p(e); } } }": "a b c d e",
	} {
		l, err := script.Roles(read(t, s))
		same(t, s, []any{strings.Join(l, " "), err}, []any{want, api.OK})
	}
}

func TestCount(t *testing.T) { // P1.2
	for s, want := range map[string][2]int{
		shop:                                     {13, 3},
		"main { }":                               {0, 0},
		"proc p(a) { } main { }":                 {0, 0},
		"main { a.x := 1; }":                     {1, 1},
		"main { if a.1 { } else { } }":           {1, 1},
		"main { if a.1 { } else { a.x := 1; } }": {2, 2},
		"proc p(a) { if a.1 { p(a); } else { } } main { p(a); }": {3, 2},
	} {
		n, d, err := script.Count(read(t, s))
		same(t, s, []any{n, d, err}, []any{want[0], want[1], api.OK})
	}
	n, d, err := script.Count(api.Play{Main: choices(api.MaxDepth, tell("a", "b", "l"))})
	same(t, "deepest", []any{n, d, err}, []any{20, 20, api.OK})
	n, d, err = script.Count(api.Play{Procs: procs(50, many(40, tell("a", "b", "l"))...)})
	same(t, "most", []any{n, d, err}, []any{2000, 1, api.OK})
}

func TestLine(t *testing.T) { // P1.2, P1.4
	p := read(t, shop)
	for n, want := range linesOfShop {
		k, err := script.Line(p, n)
		same(t, "Line", []any{n, k, err}, []any{n, want, api.OK})
	}
	for _, n := range []int{-1, 13, 14, math.MinInt, math.MaxInt} {
		k, err := script.Line(p, n)
		same(t, "no step", []any{n, k, err}, []any{n, 0, api.ErrNone})
	}
	k, err := script.Line(api.Play{}, 0)
	same(t, "no steps", []any{k, err}, []any{0, api.ErrNone})
}

func TestWithout(t *testing.T) { // P1.2
	p := read(t, shop)
	lines := strings.SplitAfter(shop, "\n")
	ends := map[int]int{16: 24, 17: 20, 2: 7} // the last lines of choices
	for n, first := range linesOfShop {
		last := first
		if ends[first] > 0 {
			last = ends[first]
		}
		want := strings.Join(lines[:first], "") + strings.Join(lines[last+1:], "")
		q, err := script.Without(p, n)
		same(t, "Without", []any{n, text(t, q), err}, []any{n, want, api.OK})
	}
	for _, n := range []int{-1, 13, 14, math.MinInt, math.MaxInt} {
		q, err := script.Without(p, n)
		same(t, "no step", []any{len(q.Procs), len(q.Main), err}, []any{0, 0, api.ErrNone})
	}
	_, err := script.Without(api.Play{Procs: procs(3)}, 0)
	same(t, "no steps", err, api.ErrNone)
}
