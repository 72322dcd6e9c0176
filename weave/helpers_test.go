package weave_test

import (
	"fmt"
	"strings"
	"testing"

	"promptbook/api"
	"promptbook/run"
	"promptbook/weave"
)

// same compares the texts of values: empty and nil lists have the same one.
func same(t *testing.T, what string, got, want any) {
	t.Helper()
	if fmt.Sprint(got) != fmt.Sprint(want) {
		t.Errorf("%s: got %s, want %s", short(what), short(got), short(want))
	}
}

// short keeps the texts of some tests out of their messages.
func short(x any) string {
	s := fmt.Sprint(x)
	if len(s) > 2000 {
		return s[:2000] + " .."
	}
	return s
}

// read reads events, as in "a send b 1, b take a x 1".
func read(t *testing.T, s string) []api.Event {
	t.Helper()
	if s == "" {
		return nil
	}
	l, line, err := run.ReadEvents(strings.ReplaceAll(s, ", ", "\n") + "\n")
	if err != api.OK {
		t.Fatalf("ReadEvents(%s): line %d, error %d", s, line, err)
	}
	return l
}

// text is the other way round; it writes wrong events, too.
func text(l []api.Event) string {
	s, err := run.EventsText(l)
	if err != api.OK {
		return fmt.Sprint(l)
	}
	return strings.ReplaceAll(strings.TrimSuffix(s, "\n"), "\n", ", ")
}

// example is that of the chapter.
const example = "a send b 1, a set x 1, b take a y 1"

// costs are those of all acts, by kinds, and of the way.
func costs(send, take, tell, offer, set, when, way int) api.Costs {
	return api.Costs{Send: send, Take: take, Tell: tell, Offer: offer, Set: set, If: when, Way: way}
}

// everything is what all functions return.
func everything(l, m []api.Event, i, k int, c api.Costs, from, to string) []any {
	all := []any{weave.Check(l)}
	put := func(l ...any) { all = append(all, l...) }
	put(first(weave.Partner(l))...)
	put(first(weave.Before(l, i, k))...)
	put(first(weave.Arrows(l))...)
	roles, clocks, err := weave.Clocks(l)
	put(roles, clocks, err)
	put(first(weave.Layers(l))...)
	put(first(weave.Normal(l))...)
	put(first(weave.Alike(l, m))...)
	begins, end, err := weave.Times(l, c)
	put(begins, end, err)
	put(first(weave.Slack(l, c))...)
	put(first(weave.Critical(l, c))...)
	put(first(weave.Antichain(l))...)
	numbers, n, err := weave.Chains(l)
	put(numbers, n, err)
	put(first(weave.Orders(l))...)
	put(first(weave.Cuts(l))...)
	put(first(weave.Queue(l, from, to))...)
	return all
}

// first is a list of a result and an error.
func first[T any](x T, err api.Errno) []any {
	return []any{x, err}
}

// nothing is what all functions return with an error of the events.
func nothing(err api.Errno) []any {
	var e []int
	return []any{err, e, err, false, err, e, err, e, e, err, e, err, e, err, false, err, e, 0, err, e, err, e, err, e, err, e, 0, err, 0, err, 0, err, 0, err}
}
