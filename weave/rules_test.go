package weave_test

import (
	"fmt"
	"math"
	"reflect"
	"slices"
	"strings"
	"sync"
	"testing"

	"promptbook/api"
	"promptbook/weave"
)

func TestAllArguments(t *testing.T) { // Z1, Z6: every call returns
	ints := []int{math.MinInt, -1, 0, 1, 2, 3, 4, 5, 6, 7, 8, 1000, 1001, math.MaxInt}
	right := read(t, example)
	for _, a := range ints {
		for _, b := range ints {
			c := costs(a, b, a, b, a, b, a)
			everything(right, right, a, b, c, "a", "b")
			everything(nil, right, b, a, c, "b", "a")
			for _, role := range []string{"", "a", "if"} {
				for _, with := range []string{"", "a", "b"} {
					l := []api.Event{{Role: role, Kind: a, With: with, Value: b}, {Role: with, Kind: b, With: role, Name: "x", Value: a}}
					everything(l, right, 0, 1, c, role, with)
					everything(right, l, 1, 0, costs(1, 1, 1, 1, 1, 1, 1), with, role)
					everything(l[1:], l[:1], a, b, c, with, "b")
				}
			}
		}
	}
	const most = 200_000
	long := strings.Repeat("a", most)
	many := make([]api.Event, most)
	same(t, "many events", everything(many, right, 0, 0, api.Costs{}, "a", "b"), nothing(api.ErrLarge))
	same(t, "many others", first(weave.Alike(right, many)), first(false, api.ErrLarge))
	same(t, "a long name", everything([]api.Event{{Role: long, Kind: api.ActIf}}, nil, 0, 0, api.Costs{}, long, long), nothing(api.ErrName))
	same(t, "a long name of a role", first(weave.Queue(right, long, "a")), first(0, api.ErrName))
}

// roomy gives a list more memory than it needs, filled with what must neither be read nor changed.
func roomy(l []api.Event) []api.Event {
	no := api.Event{Role: "NO", Kind: 77, With: "NO"}
	return append(slices.Clone(l), no, no)[:len(l)]
}

// inside visits all lists of a value, also what is in their memory behind their lengths.
func inside(v reflect.Value, visit func(list reflect.Value)) {
	switch v.Kind() {
	case reflect.Slice:
		whole := v.Slice(0, v.Cap())
		visit(whole)
		for i := range whole.Len() {
			inside(whole.Index(i), visit)
		}
	case reflect.Interface:
		inside(v.Elem(), visit)
	}
}

// whole is the text of all that is in the memory of lists.
func whole(l ...any) string {
	var b strings.Builder
	inside(reflect.ValueOf(l), func(list reflect.Value) { fmt.Fprintln(&b, list) })
	return b.String()
}

// asked are arguments for all functions.
type asked struct {
	l, m     []api.Event
	i, k     int
	c        api.Costs
	from, to string
}

func (d *dice) asked() asked {
	l := d.events(d.roll(20))
	a := asked{l: l, m: d.shuffled(l), i: d.roll(len(l) + 1), k: d.roll(len(l) + 1), c: d.costs(), from: d.pick("a", "b", "d"), to: d.pick("b", "d")}
	if d.roll(4) == 0 {
		a.l = d.changed(l)
	}
	return a
}

func (a asked) everything() []any {
	return everything(a.l, a.m, a.i, a.k, a.c, a.from, a.to)
}

func TestArgumentsStay(t *testing.T) { // Z2
	d := &dice{11}
	for range 300 {
		a := d.asked()
		want := fmt.Sprint(a.everything())
		a.l, a.m = roomy(a.l), roomy(a.m)
		before := whole(a.l, a.m)
		got := fmt.Sprint(a.everything())
		same(t, "an argument", whole(a.l, a.m), before)
		same(t, "what is behind the length", got, want)
	}
}

// span is where a list is in memory.
type span struct{ from, to uintptr }

func TestResultsAreNew(t *testing.T) { // Z2
	d := &dice{12}
	for range 300 {
		a := d.asked()
		a.l, a.m = roomy(a.l), roomy(a.m)
		var l []span
		all := []any{a.l, a.m, a.everything(), a.everything()}
		inside(reflect.ValueOf(all), func(list reflect.Value) {
			if n := uintptr(list.Cap()) * list.Type().Elem().Size(); n > 0 {
				l = append(l, span{list.Pointer(), list.Pointer() + n})
			}
		})
		slices.SortFunc(l, func(x, y span) int { return int(x.from) - int(y.from) })
		for i := 1; i < len(l); i++ {
			if l[i].from < l[i-1].to {
				t.Fatalf("two lists share memory: %s", text(a.l))
			}
		}
	}
}

func TestManyGoroutines(t *testing.T) { // Z1, Z7
	d := &dice{13}
	var wait sync.WaitGroup
	for range 50 {
		a := d.asked()
		want := fmt.Sprint(a.everything())
		for range 8 {
			wait.Go(func() {
				for range 5 {
					if got := fmt.Sprint(a.everything()); got != want {
						t.Errorf("another result for the same arguments: %s, %s", short(got), short(want))
					}
				}
			})
		}
	}
	wait.Wait()
}

func TestEmptyLists(t *testing.T) { // Z5
	right := read(t, example)
	for _, l := range [][]api.Event{nil, {}} {
		want := []any{api.OK, "[]", api.OK, false, api.ErrArg, "[]", api.OK, "[]", "[]", api.OK, "[]", api.OK, "[]", api.OK, false, api.OK, "[]", 0, api.OK, "[]", api.OK, "[]", api.OK, "[]", api.OK, "[]", 0, api.OK, 1, api.OK, 1, api.OK, 0, api.OK}
		same(t, "no events", everything(l, right, 0, 0, costs(1, 1, 1, 1, 1, 1, 1), "a", "b"), want)
		same(t, "alike", first(weave.Alike(l, nil)), first(true, api.OK))
		same(t, "alike", first(weave.Alike([]api.Event{}, l)), first(true, api.OK))
		same(t, "not alike", first(weave.Alike(right, l)), first(false, api.OK))
	}
}
