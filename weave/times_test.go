package weave_test

import (
	"fmt"
	"testing"

	"promptbook/api"
	"promptbook/weave"
)

func TestTimes(t *testing.T) { // P8.4
	all := "a send b 1, a tell b l, b take a x 1, b offer a l, b set x 1, b if 1"
	for _, one := range []struct {
		events string
		costs  api.Costs
		want   string
	}{
		{"", costs(1, 1, 1, 1, 1, 1, 5), "[] 0 [] []"},
		{example, costs(1, 1, 1, 1, 1, 1, 5), "[0 1 6] 7 [0 5 0] [0 2]"},
		{example, costs(1, 1, 1, 1, 9, 1, 5), "[0 1 6] 10 [0 0 3] [0 1]"},
		{example, api.Costs{}, "[0 0 0] 0 [0 0 0] [0]"},
		{example, costs(0, 0, 0, 0, 0, 0, 1000), "[0 0 1000] 1000 [0 1000 0] [0 2]"},
		// Each kind has its own cost.
		{all, costs(1, 20, 300, 4, 50, 600, 7), "[0 1 8 308 312 362] 962 [0 0 280 0 0 0] [0 1 3 4 5]"},
		{all, costs(1, 20, 3, 4, 50, 600, 7), "[0 1 8 28 32 82] 682 [0 17 0 0 0 0] [0 2 3 4 5]"},
		{all, costs(1000, 1000, 1000, 1000, 1000, 1000, 1000), "[0 1000 2000 3000 4000 5000] 6000 [0 0 0 0 0 0] [0 1 3 4 5]"},
		// What takes waits for the letter, and for what its role does.
		{"b set x 1, a send b 1, b take a x 1", costs(1, 1, 1, 1, 9, 1, 5), "[0 0 9] 10 [0 3 0] [0 2]"},
		{"b set x 1, a send b 1, b take a x 1", costs(1, 1, 1, 1, 3, 1, 5), "[0 0 6] 7 [3 0 0] [1 2]"},
		// Letters that nobody takes last no longer than to be sent.
		{"a send b 1, b set x 1", costs(2, 0, 0, 0, 1, 0, 1000), "[0 0] 2 [0 1] [0]"},
		// Two lists are as long: the one with the lower index; the one that ends earlier, if it begins like the other one.
		{"b set x 1, a set x 1", costs(0, 0, 0, 0, 1, 0, 0), "[0 0] 1 [0 0] [0]"},
		{"a send b 1, a set x 1, b take a x 1", costs(1, 3, 0, 0, 3, 0, 0), "[0 1 1] 4 [0 0 0] [0 1]"},
		{"a set x 1, a if 1", costs(0, 0, 0, 0, 1, 0, 0), "[0 1] 1 [0 0] [0]"},
		{"a if 1, a set x 1, a if 1", costs(0, 0, 0, 0, 1, 0, 0), "[0 0 1] 1 [0 0 0] [0 1]"},
		// The first event of a list need not be the first one of its role.
		{"b set x 1, a if 1, b send a 1, a take b x 1", costs(2, 2, 0, 0, 0, 0, 1), "[0 0 0 3] 5 [0 3 0 0] [0 2 3]"},
		// An event without slack that begins just when another one has ended, but is not what it leads to.
		{"a send b 1, c send b 1, a set x 1, b take c x 1, b take a y 1", costs(2, 2, 0, 0, 4, 0, 0), "[0 0 2 2 4] 6 [0 0 0 0 0] [0 2]"},
		{"a send b 1, c send b 1, b take c x 1, b take a y 1", costs(2, 2, 0, 0, 0, 0, 0), "[0 0 2 4] 6 [2 0 0 0] [1 2 3]"},
		// A list in which an event could go on in two ways, one of which begins too late for it.
		{"a send b 1, b set x 1, a set x 1, b take a x 1, a set y 1", costs(1, 5, 0, 0, 3, 0, 0), "[0 0 1 3 4] 8 [1 0 1 0 1] [1 3]"},
	} {
		l := read(t, one.events)
		begins, end, err := weave.Times(l, one.costs)
		slack, slackErr := weave.Slack(l, one.costs)
		list, listErr := weave.Critical(l, one.costs)
		same(t, what(l, one.costs), fmt.Sprint(begins, end, slack, list, err, slackErr, listErr), fmt.Sprint(one.want, " 0 0 0"))
	}
}

func TestWrongCosts(t *testing.T) { // P8.4
	l := read(t, example)
	nothing := fmt.Sprint([]int{}, 0, api.ErrArg, []int{}, api.ErrArg, []int{}, api.ErrArg)
	for _, n := range []int{-1, api.MaxCost + 1, -1 << 63, 1<<63 - 1} {
		for field := range 7 {
			var f [7]int
			f[field] = n
			c := costs(f[0], f[1], f[2], f[3], f[4], f[5], f[6])
			for _, l := range [][]api.Event{l, nil} {
				begins, end, err := weave.Times(l, c)
				slack, slackErr := weave.Slack(l, c)
				list, listErr := weave.Critical(l, c)
				same(t, what(l, c), fmt.Sprint(begins, end, err, slack, slackErr, list, listErr), nothing)
			}
			_, _, err := weave.Times(l[1:], c)
			same(t, "wrong events, too", err, api.ErrNone)
		}
	}
}
