package weave_test

import (
	"testing"

	"promptbook/api"
	"promptbook/weave"
)

// wrong are events, and what is wrong with them.
func wrong() []struct {
	events string
	err    api.Errno
} {
	return []struct {
		events string
		err    api.Errno
	}{
		{"b take a x 0", api.ErrNone},
		{"b offer a l", api.ErrNone},
		{"b take a x 1, a send b 1", api.ErrNone},
		{"b send a 1, b take a x 1", api.ErrNone},
		{"a send c 1, b take a x 1", api.ErrNone},
		{"a send b 1, b take c x 1", api.ErrNone},
		{"a send b 1, c take a x 1", api.ErrNone},
		{"a send b 1, b take a x 1, b take a x 1", api.ErrNone},
		{"a send b 1, b take a x 1, b take a x 1, a send b 1", api.ErrNone},
		{"a tell b l, b take a x 0", api.ErrType},
		{"a send b 0, b offer a l", api.ErrType},
		{"a tell b x, b take a x 0", api.ErrType},
		{"a send b 1, a tell b l, b offer a l, b take a x 1", api.ErrType},
		{"a send b 1, b take a x 2", api.ErrConflict},
		{"a send b 1, b take a x 0", api.ErrConflict},
		{"a send b 1, a send b 2, b take a x 2", api.ErrConflict},
		{"a send b 1, a send b 2, b take a x 1, b take a y 1", api.ErrConflict},
		{"a tell b l, b offer a m", api.ErrConflict},
		{"a tell b l, a tell b m, b offer a m", api.ErrConflict},
		// The first event that takes something wrong counts.
		{"a send b 1, a tell b l, b take a x 2, b take a x 0, b take a x 0", api.ErrConflict},
		{"a tell b l, b take a x 0, b take c x 0", api.ErrType},
		{"a tell b l, b take c x 0, b take a x 0", api.ErrNone},
	}
}

func TestWrongPartners(t *testing.T) { // P8.1
	for _, w := range wrong() {
		l := read(t, w.events)
		same(t, w.events, everything(l, nil, 0, 0, api.Costs{}, "a", "b"), nothing(w.err))
	}
}

func TestWrongEvents(t *testing.T) { // P8.1: the errors of run.CheckEvents come first
	none := api.Event{Role: "b", Kind: api.ActTake, With: "a", Name: "x"}
	for _, w := range []struct {
		e   api.Event
		err api.Errno
	}{
		{api.Event{Kind: api.ActSet, Name: "x"}, api.ErrName},
		{api.Event{Role: "if", Kind: api.ActSet, Name: "x"}, api.ErrName},
		{api.Event{Role: "a"}, api.ErrKind},
		{api.Event{Role: "a", Kind: api.ActCall}, api.ErrKind},
		{api.Event{Role: "a", Kind: api.ActSend, With: "b", Name: "x"}, api.ErrForm},
		{api.Event{Role: "a", Kind: api.ActSend}, api.ErrName},
		{api.Event{Role: "a", Kind: api.ActSend, With: "a"}, api.ErrTwice},
		{api.Event{Role: "a", Kind: api.ActSend, With: "b", Value: 1000}, api.ErrArg},
		{api.Event{Role: "a", Kind: api.ActIf, Value: 2}, api.ErrArg},
	} {
		same(t, text([]api.Event{w.e}), everything([]api.Event{none, w.e}, nil, -1, 9, costs(-1, 0, 0, 0, 0, 0, 0), "", ""), nothing(w.err))
	}
	many := make([]api.Event, api.MaxEvents+1)
	same(t, "many events", weave.Check(many), api.ErrLarge)
	same(t, "as many as can be, but wrong", weave.Check(many[1:]), api.ErrName)
}

func TestCheck(t *testing.T) { // P8.1
	for _, s := range []string{
		"",
		example,
		"a send b 1",
		"a tell b l, a send c 5, a if 1",
		"a send b 1, a tell b l, b take a x 1, a send b 2, b offer a l, b take a y 2",
		"a send b 1, b send a 2, a take b x 2, b take a x 1",
		"a send b 1, c send b 2, b take c x 2, b take a x 1",
	} {
		same(t, s, weave.Check(read(t, s)), api.OK)
	}
}

func TestPartner(t *testing.T) { // P8.1
	for s, want := range map[string][]int{
		"":                           nil,
		example:                      {2, -1, 0},
		"a send b 1, a if 0":         {-1, -1},
		"a send b 1, a send b 1":     {-1, -1},
		"a tell b l, b offer a l":    {1, 0},
		"a set x 1, b set x 1":       {-1, -1},
		"a send b 1, b send a 1":     {-1, -1},
		"b if 1, a send b 1, b if 1": {-1, -1, -1},
		// The order of letters is kept from each role to each other one, whatever they are.
		"a send b 1, a send b 1, b take a x 1":                                                     {2, -1, 0},
		"a send b 1, a tell b l, b take a x 1, b offer a l, a tell b l":                            {2, 3, 0, 1, -1},
		"a send b 1, c send b 1, a send c 1, b send a 1, c take a x 1, b take c x 1, b take a x 1": {6, 5, 4, -1, 2, 1, 0},
	} {
		got, err := weave.Partner(read(t, s))
		same(t, s, []any{got, err}, []any{want, api.OK})
	}
}
