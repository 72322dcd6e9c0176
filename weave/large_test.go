package weave_test

import (
	"fmt"
	"slices"
	"testing"

	"promptbook/api"
	"promptbook/weave"
)

// large are lists of as many events as there can be.
func large(t *testing.T) map[string][]api.Event {
	out := map[string][]api.Event{
		"one role": slices.Repeat(read(t, "a if 1"), api.MaxEvents),
		"answers":  slices.Repeat(read(t, "a send b 1, b take a x 1, b tell a l, a offer b l"), api.MaxEvents/4),
		"letters":  append(slices.Repeat(read(t, "a send b 1"), api.MaxEvents/2), slices.Repeat(read(t, "b take a x 1"), api.MaxEvents/2)...),
		// Each letter of a to c comes later than one by way of b.
		"detours": slices.Repeat(read(t, "a send c 1, a send b 2, b take a x 2, b send c 3, c take b x 3, c take a y 1, c tell a l, a offer c l"), api.MaxEvents/8),
	}
	var roles, ring, hub []api.Event
	name := func(i int) string { return fmt.Sprintf("r%05d", (i%api.MaxEvents+api.MaxEvents)%api.MaxEvents) }
	for i := range api.MaxEvents {
		roles = append(roles, api.Event{Role: name(-i), Kind: api.ActSet, Name: "x", Value: 7})
	}
	for i := range api.MaxEvents / 2 {
		ring = append(ring, api.Event{Role: name(i), Kind: api.ActTell, With: name(i + 1), Name: "l"}, api.Event{Role: name(i + 1), Kind: api.ActOffer, With: name(i), Name: "l"})
		hub = append(hub, api.Event{Role: "hub", Kind: api.ActSend, With: name(i), Value: i % 1000}, api.Event{Role: name(i), Kind: api.ActTake, With: "hub", Name: "x", Value: i % 1000})
	}
	out["many roles"], out["one role after the other"], out["one role for all"] = roles, ring, hub
	return out
}

func TestLargeLists(t *testing.T) { // P8.1 to P8.4, P8.6, Z1
	all := large(t)
	for what, want := range map[string]struct{ arrows, layers, end, queue int }{
		"one role":                 {api.MaxEvents - 1, api.MaxEvents, 6 * api.MaxEvents, 0},
		"answers":                  {api.MaxEvents - 1, api.MaxEvents, api.MaxEvents/4*(1+2+3+4) + api.MaxEvents/2*1000, 1},
		"letters":                  {2*(api.MaxEvents/2-1) + api.MaxEvents/2, api.MaxEvents/2 + 1, max(api.MaxEvents/2*1+1000+2, 1+1000+api.MaxEvents/2*2), api.MaxEvents / 2},
		"detours":                  {api.MaxEvents - 1, api.MaxEvents, api.MaxEvents / 8 * (1 + 1 + 1000 + 2 + 1 + 1000 + 2 + 2 + 3 + 1000 + 4), 1},
		"many roles":               {0, 1, 5, 0},
		"one role after the other": {api.MaxEvents - 1, api.MaxEvents, api.MaxEvents / 2 * (3 + 1000 + 4), 0},
		"one role for all":         {api.MaxEvents - 1, api.MaxEvents/2 + 1, api.MaxEvents/2*1 + 1000 + 2, 0},
	} {
		l, c := all[what], costs(1, 2, 3, 4, 5, 6, 1000)
		arrows, err := weave.Arrows(l)
		same(t, "arrows of "+what, []any{len(arrows), err}, []any{want.arrows, api.OK})
		layers, err := weave.Layers(l)
		same(t, "layers of "+what, []any{len(layers), err}, []any{want.layers, api.OK})
		_, end, err := weave.Times(l, c)
		same(t, "times of "+what, []any{end, err}, []any{want.end, api.OK})
		same(t, "queue of "+what, first(weave.Queue(l, "a", "b")), first(want.queue, api.OK))
		checkLarge(t, what, l, c)
	}
}

// checkLarge holds what follows for each large list.
func checkLarge(t *testing.T, what string, l []api.Event, c api.Costs) {
	t.Helper()
	same(t, "first and last one of "+what, first(weave.Before(l, 0, len(l)-1)), first(what != "many roles", api.OK))
	same(t, "last and first one of "+what, first(weave.Before(l, len(l)-1, 0)), first(false, api.OK))
	partners, err := weave.Partner(l)
	same(t, "number of partners of "+what, []any{len(partners), err}, []any{len(l), api.OK})
	slack, _ := weave.Slack(l, c)
	list, err := weave.Critical(l, c)
	same(t, "error of critical list of "+what, err, api.OK)
	for _, e := range list {
		same(t, fmt.Sprint("slack of ", e, " of ", what), slack[e], 0)
	}
	n, err := weave.Normal(l)
	same(t, "error of normal form of "+what, err, api.OK)
	same(t, "the normal form is like "+what, first(weave.Alike(l, n)), first(true, api.OK))
	again, _ := weave.Normal(n)
	same(t, "normal form of the normal form of "+what, slices.Equal(again, n), true)
	_, _, err = weave.Clocks(l)
	same(t, "clocks of "+what, err, api.ErrLarge)
}

func TestManyClockedRoles(t *testing.T) { // P8.2, Z1
	l := large(t)["many roles"][:api.MaxClocked]
	roles, clocks, err := weave.Clocks(l)
	same(t, "roles", []any{len(roles), len(clocks), err}, []any{len(l), len(l), api.OK})
	for e, clock := range clocks {
		for role, n := range clock {
			if (n == 1) != (l[e].Role == roles[role]) {
				t.Fatalf("event %d: %d events of %s", e, n, roles[role])
			}
		}
	}
}
