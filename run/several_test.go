package run_test

import (
	"math"
	"testing"

	"promptbook/api"
	"promptbook/run"
)

func TestNever(t *testing.T) { // P4.4
	const choices = "proc p(x) { x.v := 1; if x.w { x.v := 2; } else { } } proc q(x) { x.v := 1; } main { if a.x { p(a); } else { p(b); } a.z := 1; }"
	for _, c := range []struct{ what, text, all, want string }{
		{"the example", example, "", "3"},
		{"Then", choices, "a.x=1", "2 6 7"},
		{"Else", choices, "a.y=1", "1 6 7"},
		{"both", choices, "a.x=1|a.y=1", "6 7"},
		{"in the second call", choices, "a.x=1|b.w=1|a.x=1", "7"},
		{"the last one", choices, "b.w=1|b.w=1 b.x=2", "1 7"},
		{"nothing to do", "main { }", "|", ""},
		{"all is done", "proc p(x) { } main { p(a); a.x := 1; }", "a.x=5", ""},
	} {
		l, err := run.Never(read(t, c.text), bunch(c.all), 20)
		same(t, c.what, []any{l, err}, []any{"[" + c.want + "]", api.OK})
	}
	l, err := run.Never(read(t, choices), nil, 0)
	same(t, "no runs", []any{l, err}, []any{[]int{0, 1, 2, 3, 4, 5, 6, 7}, api.OK})
}

func TestDiffer(t *testing.T) { // P4.4
	for _, c := range []struct {
		what, p, q, all string
		want            int
		is              bool
	}{
		{"equal ones", example, example, "|a.x=1|b.y=999", 0, false},
		{"nothing", "main { }", "main { }", "|", 0, false},
		{"a first value is used", "main { a.x := x; }", "main { a.x := 5; }", "a.x=5|a.x=6|a.x=7", 1, true},
		{"the last one", "main { a.x := x; }", "main { a.x := 5; }", "a.x=5|a.x=5|a.x=7", 2, true},
		{"the first one", "main { a.x := x; }", "main { a.x := 5; }", "|a.x=5", 0, true},
		{"none", "main { a.x := x; }", "main { a.x := 5; }", "a.x=5|a.x=5 a.y=1", 0, false},
		{"equal ends, other actions", "main { a.x := 1; }", "main { a.x := 0; a.x := 1; }", "", 0, true},
		{"equal ends, a value on the way", "main { a.x := 1; a.x := 3; }", "main { a.x := 2; a.x := 3; }", "", 0, true},
		{"other ends", "main { a.x := 1; }", "main { a.x := 2; }", "", 0, true},
		{"roles in another order", "main { a.x := 1; b.x := 2; }", "main { b.x := 2; a.x := 1; }", "a.x=5", 0, false},
		{"sends in another order", "main { a.1 -> b.x; c.1 -> d.x; }", "main { c.1 -> d.x; a.1 -> b.x; }", "", 0, false},
		{"one role in another order", "main { a.x := 1; a.y := 2; }", "main { a.y := 2; a.x := 1; }", "", 0, true},
		{"receiving in another order", "main { a.1 -> b.x; c.1 -> b.y; }", "main { c.1 -> b.y; a.1 -> b.x; }", "", 0, true},
		{"a role does nothing", "main { a -> b [l]; }", "main { if a.1 { } else { b.x := 1; } }", "", 0, true},
		{"the second has a role more", "main { a.x := 1; }", "main { a.x := 1; if b.x { } else { } }", "", 0, true},
		{"the first has a role more", "main { a.x := 1; if b.x { } else { } }", "main { a.x := 1; }", "", 0, true},
		{"calls cannot be seen", "proc p(x) { q(x); } proc q(x) { x.v := 1; } main { p(a); }", "main { a.v := 1; }", "|a.v=4", 0, false},
		{"labels", "main { a -> b [l]; }", "main { a -> b [m]; }", "", 0, true},
		{"decisions", "main { if a.x { } else { } }", "main { if a.y { } else { } }", "a.x=1 a.y=2||a.x=1", 2, true},
		{"the values of decisions", "main { if a.x { } else { } }", "main { if a.5 { } else { } }", "a.x=1|a.x=999", 0, false},
	} {
		n, is, err := run.Differ(read(t, c.p), read(t, c.q), bunch(c.all), 20)
		same(t, c.what, []any{n, is, err}, []any{c.want, c.is, api.OK})
	}
	n, is, err := run.Differ(read(t, example), read(t, "main { }"), nil, 0)
	same(t, "no lists", []any{n, is, err}, []any{0, false, api.OK})
}

func TestErrorsOfSeveral(t *testing.T) { // P4.4, Z4
	long := "main { a.x := 1; a.x := 2; a.x := 3; if a.y { a.x := 4; } else { } }"
	for _, c := range []struct {
		what, p string
		all     [][]api.Store
		fuel    int
		want    api.Errno
	}{
		{"right", long, bunch("|a.y=1"), 5, api.OK},
		{"no play", "main { a -> a [l]; }", make([][]api.Store, api.MaxBunch+1), -1, api.ErrTwice},
		{"MaxBunch", long, make([][]api.Store, api.MaxBunch), 4, api.OK},
		{"more", long, make([][]api.Store, api.MaxBunch+1), -1, api.ErrLarge},
		{"more, with wrong ones", long, append(make([][]api.Store, api.MaxBunch), stores("b.x=1 a.x=1")), 4, api.ErrLarge},
		{"fuel below 0", long, bunch("b.x=1 a.x=1"), -1, api.ErrArg},
		{"too much fuel", long, bunch("b.x=1 a.x=1"), api.MaxFuel + 1, api.ErrArg},
		{"far too much fuel", long, nil, math.MaxInt, api.ErrArg},
		{"wrong fuel for nothing", "main { }", nil, math.MinInt, api.ErrArg},
		{"wrong stores", long, bunch("|b.x=1 a.x=1"), 5, api.ErrOrder},
		{"no role", long, bunch("|b.x=1"), 5, api.ErrNone},
		{"it does not last", long, bunch("|a.y=1"), 4, api.ErrFull},
		{"list by list: it does not last", long, bunch("a.y=1|b.x=1|b.x=1 a.x=1"), 4, api.ErrFull},
		{"list by list: no role", long, bunch("|b.x=1|b.x=1 a.x=1|a.y=1"), 4, api.ErrNone},
		{"list by list: wrong stores", long, bunch("|b.x=1 a.x=1|b.x=1|a.y=1"), 4, api.ErrOrder},
	} {
		p := read(t, c.p)
		l, err := run.Never(p, c.all, c.fuel)
		same(t, c.what, err, c.want)
		if c.want != api.OK {
			same(t, c.what, l, []int{})
		}
		n, is, err := run.Differ(p, p, c.all, c.fuel)
		same(t, c.what, []any{n, is, err}, []any{0, false, c.want})
	}
}

func TestDifferErrors(t *testing.T) { // P4.4, Z4
	const one, three = "main { a.x := 1; }", "main { a.x := 1; b.x := 2; a.x := 3; }"
	for _, c := range []struct {
		what, p, q string
		all        [][]api.Store
		fuel       int
		want       api.Errno
	}{
		{"the first play first", "main { a -> a [l]; }", "main { p(a); }", nil, -1, api.ErrTwice},
		{"the second play", one, "main { p(a); }", make([][]api.Store, api.MaxBunch+1), -1, api.ErrNone},
		{"both wrong", "main { p(a); }", "main { a -> a [l]; }", nil, -1, api.ErrNone},
		{"the first does not last", three, one, bunch(""), 2, api.ErrFull},
		{"the second does not last", one, three, bunch(""), 2, api.ErrFull},
		{"no role of the first", one, three, bunch("b.x=1"), 9, api.ErrNone},
		{"no role of the second", three, one, bunch("b.x=1"), 9, api.ErrNone},
		{"the first does not last, no role of the second", three, one, bunch("b.x=1"), 2, api.ErrFull},
		{"no role of the first, the second does not last", one, three, bunch("b.x=1"), 2, api.ErrNone},
		{"an error behind what differs", one, three, bunch("a.y=1|b.x=1"), 9, api.ErrNone},
		{"wrong stores behind what differs", one, three, bunch("a.y=1|a.y=2 a.x=1"), 9, api.ErrOrder},
		{"it does not last behind what differs", "main { if a.y { a.x := 1; a.x := 2; } else { } }", "main { if a.y { } else { } a.x := 3; }", bunch("|a.y=1"), 2, api.ErrFull},
		{"the list before", one, three, bunch("a.x=1|b.x=1|a.y=2 a.x=1"), 9, api.ErrNone},
	} {
		n, is, err := run.Differ(read(t, c.p), read(t, c.q), c.all, c.fuel)
		same(t, c.what, []any{n, is, err}, []any{0, false, c.want})
	}
}

func TestSeveralOfRandom(t *testing.T) { // P4.4
	d := &dice{7}
	trials(t, d, 400, func(c trial) {
		all := [][]api.Store{c.first, d.stores(c.roles), d.stores(c.roles)}
		seen := map[int]bool{}
		var want api.Errno
		for _, s := range all {
			one := tell(c.play, s, c.fuel)
			if one.full {
				want = api.ErrFull
			}
			for _, n := range one.done {
				seen[n] = true
			}
		}
		l, err := run.Never(c.play, all, c.fuel)
		same(t, c.what, err, want)
		for i := range len(c.told.numbers) {
			if want == api.OK && !seen[i] {
				if len(l) == 0 || l[0] != i {
					t.Fatalf("step %d is not told: %s", i, c.what)
				}
				l = l[1:]
			}
		}
		same(t, c.what, l, []int{})
	})
}

func TestDifferOfRandom(t *testing.T) { // P4.4
	d := &dice{8}
	found := map[bool]int{}
	trials(t, d, 1500, func(c trial) {
		p, q := c.play, read(t, text(t, c.play))
		d.change(&q)
		all := [][]api.Store{d.stores(c.roles), d.stores(c.roles)}
		want, is, wantErr := 0, false, api.OK
		for i, s := range all {
			_, _, err := run.Run(p, s, c.fuel)
			_, _, otherErr := run.Run(q, s, c.fuel)
			for _, err := range []api.Errno{err, otherErr} {
				if wantErr == api.OK {
					wantErr = err
				}
			}
			if !is && !alike(tell(p, s, c.fuel), tell(q, s, c.fuel)) {
				want, is = i, true
			}
		}
		if wantErr != api.OK {
			want, is = 0, false
		}
		found[is]++
		n, got, err := run.Differ(p, q, all, c.fuel)
		same(t, c.what, []any{n, got, err}, []any{want, is, wantErr})
	})
	if found[true] < 200 || found[false] < 200 {
		t.Error("too few of a kind:", found)
	}
}

// change makes a play do something else, or the same in another order.
func (d *dice) change(p *api.Play) {
	if len(p.Main) < 2 || d.roll(3) == 0 {
		p.Main = append(p.Main, d.steps([]string{"a", "b"}, nil, 1, 1)...)
		return
	}
	i := d.roll(len(p.Main) - 1)
	p.Main[i], p.Main[i+1] = p.Main[i+1], p.Main[i]
}

// alike compares what two runs end with, and what each role does in them.
func alike(x, y *teller) bool {
	if short(x.stores()) != short(y.stores()) {
		return false
	}
	for _, role := range []string{"a", "b", "c"} {
		one, _ := run.Actions(x.events, role)
		other, _ := run.Actions(y.events, role)
		if short(one) != short(other) {
			return false
		}
	}
	return true
}
