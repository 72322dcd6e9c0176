package weave_test

import (
	"fmt"
	"slices"
	"testing"

	"promptbook/api"
	"promptbook/weave"
)

func TestOrdersAndCuts(t *testing.T) { // P8.6
	for s, want := range map[string]string{
		"":                               "1 1",
		"a set x 1":                      "1 2",
		"a set x 1, a set x 1":           "1 3",
		"a set x 1, b set x 1":           "2 4",
		example:                          "2 5",
		roundabout:                       "1 7",
		apart:                            "30 18",
		"a if 1, b if 1, c if 1, d if 1": "24 16",
	} {
		orders, err := weave.Orders(read(t, s))
		cuts, otherErr := weave.Cuts(read(t, s))
		same(t, s, fmt.Sprint(orders, cuts, err, otherErr), want+" 0 0")
	}
}

func TestMostOrders(t *testing.T) { // P8.6
	var apart []api.Event
	all := 1
	for i := range api.MaxOrder {
		apart = append(apart, api.Event{Role: fmt.Sprintf("r%02d", i), Kind: api.ActIf})
		all *= i + 1
	}
	same(t, "all orders", first(weave.Orders(apart)), first(all, api.OK))
	same(t, "all sets", first(weave.Cuts(apart)), first(1<<api.MaxOrder, api.OK))
	row := slices.Repeat(apart[:1], api.MaxOrder)
	same(t, "one order", first(weave.Orders(row)), first(1, api.OK))
	same(t, "one after the other", first(weave.Cuts(row)), first(api.MaxOrder+1, api.OK))
	many := append(row, row[0])
	same(t, "too many", first(weave.Orders(many)), first(0, api.ErrLarge))
	same(t, "too many for cuts", first(weave.Cuts(many)), first(0, api.ErrLarge))
	wrong := append(many, read(t, "b take a x 1")...)
	same(t, "too many, and wrong", first(weave.Orders(wrong)), first(0, api.ErrNone))
	same(t, "too many, and wrong, for cuts", first(weave.Cuts(wrong)), first(0, api.ErrNone))
}

func TestQueue(t *testing.T) { // P8.6
	for _, one := range []struct {
		events string
		ab, ba int
	}{
		{"", 0, 0},
		{example, 1, 0},
		{answered, 1, 1},
		{"a send b 1", 1, 0},
		{"a send c 1, c send b 1, c tell a l", 0, 0},
		// As many as can be sent before b takes one, also if it takes each one at once in this list.
		{"a send b 1, b take a x 1, a send b 2, b take a x 2, a tell b l, b offer a l", 3, 0},
		// a waits for an answer each time, ..
		{"a send b 1, b take a x 1, b tell a l, a offer b l, a send b 2, b take a x 2", 1, 1},
		// .. or by way of another role, ..
		{"a send b 1, b take a x 1, b tell c l, c offer b l, c tell a l, a offer c l, a send b 2, a send b 3", 2, 0},
		// .. or for one that b had sent before.
		{"b tell a l, a send b 1, b take a x 1, a offer b l, a send b 2, b take a x 2", 2, 1},
		{"a send b 1, a send b 2, a send b 3, b take a x 1, b take a x 2, b tell a l, a offer b l, a send b 4, a send b 5", 3, 1},
		{"a send b 1, a send b 2, b take a x 1, b take a x 2, b tell a l, a offer b l, a send b 3, a send b 4, a send b 5", 3, 1},
	} {
		l := read(t, one.events)
		same(t, "from a to b: "+one.events, first(weave.Queue(l, "a", "b")), first(one.ab, api.OK))
		same(t, "from b to a: "+one.events, first(weave.Queue(l, "b", "a")), first(one.ba, api.OK))
		same(t, "to none of them: "+one.events, first(weave.Queue(l, "a", "z")), first(0, api.OK))
	}
	l := read(t, example)
	for _, w := range []struct {
		from, to string
		err      api.Errno
	}{
		{"", "b", api.ErrName}, {"a", "", api.ErrName}, {"", "", api.ErrName}, {"if", "if", api.ErrName}, {"a", "B", api.ErrName}, {"a b", "b", api.ErrName}, {"a", "1", api.ErrName},
		{"a", "a", api.ErrTwice}, {"z", "z", api.ErrTwice},
	} {
		same(t, fmt.Sprint(w), first(weave.Queue(l, w.from, w.to)), first(0, w.err))
		same(t, fmt.Sprint(w), first(weave.Queue(nil, w.from, w.to)), first(0, w.err))
		same(t, fmt.Sprint(w), first(weave.Queue(l[2:], w.from, w.to)), first(0, api.ErrNone))
	}
}
