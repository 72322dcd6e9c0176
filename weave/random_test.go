package weave_test

import (
	"fmt"
	"slices"
	"testing"

	"promptbook/api"
	"promptbook/weave"
)

// tries is how many lists of events a test tries.
const tries = 1000

// compared says whether the events were right.
func compared(t *testing.T, l, m []api.Event, i, k int, c api.Costs, from, to string) bool {
	t.Helper()
	got, want := everything(l, m, i, k, c, from, to), told(l, m, i, k, c, from, to)
	for j := range want {
		if fmt.Sprint(got[j]) != fmt.Sprint(want[j]) {
			t.Errorf("%s and %s: result %d: got %v, want %v (%d %d %s %s)", what(l, c), text(m), j, got[j], want[j], i, k, from, to)
		}
	}
	return want[0] == api.OK
}

func TestRandomEvents(t *testing.T) { // P8.1 to P8.6
	d := &dice{1}
	for range tries {
		l := d.events(d.roll(10))
		m := d.events(d.roll(3))
		switch d.roll(3) {
		case 0:
			m = d.shuffled(l)
		case 1:
			m = slices.Clone(d.shuffled(l))
			if len(m) > 0 {
				m[d.roll(len(m))].Name = "z"
			}
		}
		if !compared(t, l, m, d.roll(len(l)+2)-1, d.roll(len(l)+2)-1, d.costs(), d.pick("a", "b", "d"), d.pick("b", "d", "d", "a", "e", "if")) {
			t.Errorf("wrong events: %s", text(l))
		}
	}
}

func TestRandomChanges(t *testing.T) { // P8.1: errors, too
	d := &dice{2}
	right := 0
	for range 3 * tries {
		if compared(t, d.changed(d.events(1+d.roll(8))), d.changed(d.events(2)), 0, 0, d.costs(), d.pick("a", "b", ""), "b") {
			right++
		}
	}
	if right < tries/4 || right > 2*tries {
		t.Errorf("%d of %d lists were right", right, 3*tries)
	}
}

func TestRandomLongEvents(t *testing.T) { // P8.1 to P8.4: all that can be told of many events, too
	d := &dice{3}
	detours := 0
	for range tries / 5 {
		l := d.events(d.roll(40))
		c := d.costs()
		s := teller(l)
		same(t, "partners of "+text(l), first(weave.Partner(l)), first(s.partners, api.OK))
		for i := range l {
			for k := range l {
				same(t, fmt.Sprint("before ", i, k, text(l)), first(weave.Before(l, i, k)), first(s.before[i][k], api.OK))
			}
		}
		same(t, "arrows of "+text(l), first(weave.Arrows(l)), first(s.arrows(), api.OK))
		roles, clocks, err := weave.Clocks(l)
		ownRoles, ownClocks := s.clocks()
		same(t, "clocks of "+text(l), []any{roles, clocks, err}, []any{ownRoles, ownClocks, api.OK})
		same(t, "layers of "+text(l), first(weave.Layers(l)), first(s.layers(), api.OK))
		same(t, "normal form of "+text(l), first(weave.Normal(l)), first(s.normal(), api.OK))
		begins, end, err := weave.Times(l, c)
		ownBegins, ownEnd := s.times(c, -1, 0)
		same(t, "times of "+what(l, c), []any{begins, end, err}, []any{ownBegins, ownEnd, api.OK})
		same(t, "slack of "+what(l, c), first(weave.Slack(l, c)), first(s.slack(c), api.OK))
		if s.links() > len(s.arrows()) {
			detours++
		}
	}
	if detours < tries/20 {
		t.Errorf("only %d lists with detours", detours)
	}
}

func TestRandomWideEvents(t *testing.T) { // P8.5: as many events as there can be
	d := &dice{4}
	for range tries / 5 {
		l := d.events(1 + d.roll(api.MaxWide))
		s := teller(l)
		numbers, n, err := weave.Chains(l)
		list, otherErr := weave.Antichain(l)
		same(t, "errors of "+text(l), []any{err, otherErr}, []any{api.OK, api.OK})
		same(t, "as many chains as "+text(l), n, len(list))
		same(t, "chains from 0 on, of "+text(l), slices.Max(numbers), n-1)
		if !s.concurrent(list) || !slices.IsSorted(list) {
			t.Errorf("no antichain: %v of %s", list, text(l))
		}
		for k := range l {
			for i := range k {
				if numbers[i] == numbers[k] && !s.before[i][k] {
					t.Errorf("no chains: %v of %s", numbers, text(l))
				}
			}
		}
		same(t, "antichain of "+text(l), list, s.firstConcurrent(nil, n))
	}
}
