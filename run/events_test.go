package run_test

import (
	"math"
	"strings"
	"testing"

	"promptbook/api"
	"promptbook/run"
)

// wrongEvents are lists of one event with CheckEvents' errors.
func wrongEvents() []struct {
	e    api.Event
	want api.Errno
} {
	type pair = struct {
		e    api.Event
		want api.Errno
	}
	e := func(kind int, with, name string, value int) api.Event {
		return api.Event{Role: "a", Kind: kind, With: with, Name: name, Value: value}
	}
	long := strings.Repeat("x", api.MaxName)
	l := []pair{
		// right ones
		{e(api.ActSend, "b", "", 0), 0}, {e(api.ActSend, "b", "", 999), 0}, {e(api.ActTake, "b", "x", 0), 0}, {e(api.ActTake, "b", "x", 999), 0}, {e(api.ActTake, "b", "a", 1), 0},
		{e(api.ActTell, "b", "l", 0), 0}, {e(api.ActOffer, "b", "l", 0), 0}, {e(api.ActSet, "", "x", 0), 0}, {e(api.ActSet, "", "a", 999), 0}, {e(api.ActIf, "", "", 0), 0}, {e(api.ActIf, "", "", 1), 0},
		{e(api.ActSend, long, "", 1), 0}, {e(api.ActSet, "", long, 1), 0},
		// kinds
		{e(0, "", "", 0), api.ErrKind}, {e(api.ActCall, "", "", 0), api.ErrKind}, {e(8, "b", "x", 5), api.ErrKind}, {e(-1, "A", "A", -1), api.ErrKind}, {e(math.MinInt, "", "", 0), api.ErrKind}, {e(math.MaxInt, "", "", 0), api.ErrKind},
		// forms
		{e(api.ActSet, "b", "x", 1), api.ErrForm}, {e(api.ActSet, "B", "X", -1), api.ErrForm}, {e(api.ActIf, "b", "", 1), api.ErrForm}, {e(api.ActIf, "", "x", 1), api.ErrForm}, {e(api.ActIf, "", "X", 2), api.ErrForm},
		{e(api.ActSend, "b", "x", 1), api.ErrForm}, {e(api.ActSend, "B", "x", 1000), api.ErrForm}, {e(api.ActTell, "b", "l", 1), api.ErrForm}, {e(api.ActTell, "B", "L", -1), api.ErrForm}, {e(api.ActOffer, "b", "l", 1), api.ErrForm}, {e(api.ActOffer, "a", "l", math.MinInt), api.ErrForm},
		// names
		{e(api.ActSend, "", "", 1), api.ErrName}, {e(api.ActSend, "B", "", 1000), api.ErrName}, {e(api.ActTake, "", "x", 1), api.ErrName}, {e(api.ActTake, "b", "", 1), api.ErrName}, {e(api.ActTake, "b", "if", -1), api.ErrName}, {e(api.ActTake, "a", "X", 1), api.ErrName},
		{e(api.ActTell, "main", "l", 0), api.ErrName}, {e(api.ActTell, "b", "", 0), api.ErrName}, {e(api.ActOffer, "", "l", 0), api.ErrName}, {e(api.ActOffer, "b", "l-", 0), api.ErrName}, {e(api.ActSet, "", "", 1), api.ErrName}, {e(api.ActSet, "", "0", 1000), api.ErrName},
		{e(api.ActSend, long+"x", "", 1), api.ErrName}, {e(api.ActSet, "", long+"x", 1), api.ErrName},
		// twice
		{e(api.ActSend, "a", "", 1), api.ErrTwice}, {e(api.ActTake, "a", "x", -1), api.ErrTwice}, {e(api.ActTell, "a", "l", 0), api.ErrTwice}, {e(api.ActOffer, "a", "a", 0), api.ErrTwice}, {e(api.ActSend, "a", "", 1000), api.ErrTwice},
		// values
		{e(api.ActSend, "b", "", -1), api.ErrArg}, {e(api.ActSend, "b", "", 1000), api.ErrArg}, {e(api.ActTake, "b", "x", math.MinInt), api.ErrArg}, {e(api.ActTake, "b", "x", math.MaxInt), api.ErrArg}, {e(api.ActSet, "", "x", -1), api.ErrArg}, {e(api.ActSet, "", "x", 1000), api.ErrArg},
		{e(api.ActIf, "", "", 2), api.ErrArg}, {e(api.ActIf, "", "", 999), api.ErrArg}, {e(api.ActIf, "", "", -1), api.ErrArg}, {e(api.ActIf, "", "", 1000), api.ErrArg},
	}
	for _, role := range []string{"", "A", "else", "a b", long + "x"} {
		l = append(l, pair{api.Event{Role: role, Kind: api.ActCall}, api.ErrName}, pair{api.Event{Role: role, Kind: api.ActIf, Value: 1}, api.ErrName}, pair{api.Event{Role: role, Kind: api.ActSend, With: role, Value: 1}, api.ErrName})
	}
	return append(l, pair{api.Event{Role: long, Kind: api.ActIf, Value: 1}, api.OK})
}

func TestCheckEvents(t *testing.T) { // P4.1
	right := events("a set x 1; a send b 5")
	for _, c := range wrongEvents() {
		same(t, short(c.e), run.CheckEvents([]api.Event{c.e}), c.want)
		same(t, "behind others "+short(c.e), run.CheckEvents(append(right[:2:2], c.e)), c.want)
	}
	same(t, "none", run.CheckEvents(nil), api.OK)
	same(t, "in order", run.CheckEvents([]api.Event{{Role: "a", Kind: api.ActIf, Value: 2}, {}}), api.ErrArg)
	same(t, "in order", run.CheckEvents([]api.Event{{}, {Role: "a", Kind: api.ActIf, Value: 2}}), api.ErrName)
	many := make([]api.Event, api.MaxEvents+1)
	same(t, "more than MaxEvents, all wrong", run.CheckEvents(many), api.ErrLarge)
	same(t, "MaxEvents, all wrong", run.CheckEvents(many[1:]), api.ErrName)
	for i := range many {
		many[i] = right[i%2]
	}
	same(t, "more than MaxEvents", run.CheckEvents(many), api.ErrLarge)
	same(t, "MaxEvents", run.CheckEvents(many[1:]), api.OK)
}

func TestEventsAreChecked(t *testing.T) { // P4.3, P4.6: by all functions that take them
	for _, c := range wrongEvents() {
		if c.want == api.OK {
			continue
		}
		l, err := run.Actions([]api.Event{c.e}, "A")
		same(t, short(c.e), []any{l, err}, []any{[]api.Event{}, c.want})
		text, err := run.EventsText([]api.Event{c.e})
		same(t, short(c.e), []any{text, err}, []any{"", c.want})
	}
}

func TestActions(t *testing.T) { // P4.3
	l := events("a set x 1; b send a 5; a take b y 5; b if 0; a tell b l; b offer a l")
	for role, want := range map[string]string{
		"a": "a set x 1; a take b y 5; a tell b l",
		"b": "b send a 5; b if 0; b offer a l",
		"c": "", "x": "", "l": "",
	} {
		got, err := run.Actions(l, role)
		same(t, role, []any{got, err}, []any{events(want), api.OK})
	}
	for _, role := range []string{"", "A", "proc", "a b", strings.Repeat("x", api.MaxName+1)} {
		got, err := run.Actions(l, role)
		same(t, role, []any{got, err}, []any{[]api.Event{}, api.ErrName})
	}
	got, err := run.Actions(nil, "a")
	same(t, "nothing", []any{got, err}, []any{[]api.Event{}, api.OK})
}

func TestActionsAreAllEvents(t *testing.T) { // P4.3, and what follows
	trials(t, &dice{9}, 300, func(c trial) {
		_, l, _, _ := run.Mid(c.play, c.first, c.fuel)
		same(t, c.what, run.CheckEvents(l), api.OK)
		rest := map[string][]api.Event{}
		n := 0
		for _, role := range c.roles {
			rest[role], _ = run.Actions(l, role)
			n += len(rest[role])
		}
		same(t, c.what, n, len(l))
		for _, e := range l {
			same(t, c.what, e, rest[e.Role][0])
			rest[e.Role] = rest[e.Role][1:]
		}
	})
}
