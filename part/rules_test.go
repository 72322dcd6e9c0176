package part_test

import (
	"fmt"
	"math"
	"reflect"
	"slices"
	"strings"
	"sync"
	"testing"

	"promptbook/api"
	"promptbook/part"
)

func TestAllArguments(t *testing.T) { // Z1, Z6: every call returns
	ints := []int{math.MinInt, -1, 0, 1, 2, 3, 4, 5, 6, 7, 8, 1000, math.MaxInt}
	for _, a := range ints {
		for _, b := range ints {
			for _, role := range []string{"", "a", "b", "if"} {
				e := api.Expr{Op: a, N: b, Args: []api.Expr{{Op: b}}}
				one := api.Act{Kind: a, With: role, Var: "v", Label: "l", Expr: e, Then: []api.Act{{Kind: b}}, Offers: []api.Offer{{}}, Proc: "p", Index: b, Args: []string{""}}
				few := api.Act{Kind: a, Proc: "p", Index: b, Args: []string{role}}
				set := api.Act{Kind: api.ActSet, Var: "v", Expr: number(b)}
				l := api.Local{Key: "p", Index: b, Params: []string{"x"}, Body: []api.Act{one, few}}
				v, heard := []api.Slot{{Name: "v", Value: a}}, []api.Heard{{With: role, Value: b}}
				for _, p := range []api.Part{{Role: role, Main: []api.Act{one}, Locals: []api.Local{l}}, {Role: role, Main: []api.Act{few}, Locals: []api.Local{{Key: "p", Index: b, Params: []string{"x"}}}}, {Role: role, Main: []api.Act{set}}} {
					everything(p, v, heard, a, []api.Pair{{Name: role}}, p)
				}
				part.Hears([]api.Event{{Role: role, Kind: a, With: role, Value: b}}, role)
			}
		}
	}
	const most = 200_000
	long := strings.Repeat("a", most)
	everything(api.Part{Role: long, Main: make([]api.Act, most)}, nil, nil, 0, nil, api.Part{})
	same(t, "many acts", everything(api.Part{Role: "b", Main: make([]api.Act, most)}, make([]api.Slot, most), make([]api.Heard, most), 0, nil, api.Part{})[:3], nothing(api.ErrKind)[:3])
	same(t, "many Locals", everything(api.Part{Role: "b", Locals: make([]api.Local, most)}, nil, nil, 0, make([]api.Pair, most), api.Part{})[:3], nothing(api.ErrLarge)[:3])
	part.Read(long)
	part.Read(strings.Repeat("\n", most))
	part.Read("part b {\n" + strings.Repeat("  \n", most/4))
	part.Hears(make([]api.Event, most), long)
}

func TestErrorsAreAlone(t *testing.T) { // Z3, Z4
	p := read(t, example)
	p.Main[2].Expr.Op = 77
	same(t, "wrong", everything(p, nil, nil, 0, nil, p), nothing(api.ErrKind))
	same(t, "wrong, with more that is", everything(p, slots("Z=1"), heard(":1"), -1, []api.Pair{{}}, p), nothing(api.ErrKind))
	q, line, err := part.Read("part b {\n  take b x;\n}\n")
	same(t, "read", []any{q, line, err}, []any{api.Part{}, 0, api.ErrTwice})
}

// roomy gives a list more memory than it needs, filled with what must neither be read nor changed.
func roomy[T any](l []T, no T) []T {
	return append(slices.Clone(l), no, no)[:len(l)]
}

func roomyExpr(e api.Expr) api.Expr {
	var args []api.Expr
	for _, a := range e.Args {
		args = append(args, roomyExpr(a))
	}
	e.Args = roomy(args, api.Expr{Op: 77})
	return e
}

func roomyActs(l []api.Act) []api.Act {
	var out []api.Act
	for _, a := range l {
		a.Expr = roomyExpr(a.Expr)
		a.Args = roomy(a.Args, "NO")
		a.Then, a.Else = roomyActs(a.Then), roomyActs(a.Else)
		var offers []api.Offer
		for _, o := range a.Offers {
			offers = append(offers, api.Offer{Label: o.Label, Body: roomyActs(o.Body)})
		}
		a.Offers = roomy(offers, api.Offer{Label: "NO"})
		out = append(out, a)
	}
	return roomy(out, api.Act{Kind: 77, With: "NO"})
}

func roomyPart(p api.Part) api.Part {
	var locals []api.Local
	for _, l := range p.Locals {
		locals = append(locals, api.Local{Key: l.Key, Index: l.Index, Params: roomy(l.Params, "NO"), Body: roomyActs(l.Body)})
	}
	return api.Part{Role: p.Role, Locals: roomy(locals, api.Local{Key: "NO"}), Main: roomyActs(p.Main)}
}

// inside visits all lists of a value, also what is in their memory behind their lengths.
func inside(v reflect.Value, visit func(list reflect.Value)) {
	switch v.Kind() {
	case reflect.Slice:
		whole := v.Slice(0, v.Cap())
		visit(whole)
		for i := range whole.Len() {
			inside(whole.Index(i), visit)
		}
	case reflect.Interface:
		inside(v.Elem(), visit)
	case reflect.Struct:
		for i := range v.NumField() {
			inside(v.Field(i), visit)
		}
	}
}

// whole is the text of all that is in the memory of a value's lists.
func whole(x any) string {
	var b strings.Builder
	inside(reflect.ValueOf(x), func(list reflect.Value) { fmt.Fprintln(&b, list) })
	return b.String()
}

// asked are arguments for all functions.
type asked struct {
	p, q   api.Part
	v      []api.Slot
	heard  []api.Heard
	pairs  []api.Pair
	events []api.Event
}

func (d *dice) asked() asked {
	p := d.part()
	a := asked{p: p, q: d.changed(p), v: slots("u=1 w=2"), heard: d.mail(6), pairs: []api.Pair{{Name: "b", Value: "z"}}}
	for _, h := range d.mail(5) {
		a.events = append(a.events, api.Event{Role: h.With, Kind: api.ActSend, With: "b", Value: h.Value})
	}
	return a
}

func (a asked) roomy() asked {
	return asked{roomyPart(a.p), roomyPart(a.q), roomy(a.v, api.Slot{Name: "NO"}), roomy(a.heard, api.Heard{With: "NO"}), roomy(a.pairs, api.Pair{Name: "NO"}), roomy(a.events, api.Event{Role: "NO"})}
}

func (a asked) everything() []any {
	l, err := part.Hears(a.events, "b")
	s, _ := part.Text(a.p)
	p, line, readErr := part.Read(s)
	return append(everything(a.p, a.v, a.heard, 40, a.pairs, a.q), l, err, p, line, readErr)
}

func TestArgumentsStay(t *testing.T) { // Z2
	d := &dice{11}
	for range 300 {
		a := d.asked()
		want := fmt.Sprint(a.everything())
		a = a.roomy()
		before := whole(a)
		got := fmt.Sprint(a.everything())
		same(t, "an argument", whole(a), before)
		same(t, "what is behind the length", got, want)
	}
}

// span is where a list is in memory.
type span struct{ from, to uintptr }

func TestResultsAreNew(t *testing.T) { // Z2
	d := &dice{12}
	for range 300 {
		a := d.asked().roomy()
		var l []span
		inside(reflect.ValueOf([]any{a, a.everything(), a.everything()}), func(list reflect.Value) {
			if n := uintptr(list.Cap()) * list.Type().Elem().Size(); n > 0 {
				l = append(l, span{list.Pointer(), list.Pointer() + n})
			}
		})
		slices.SortFunc(l, func(x, y span) int { return int(x.from) - int(y.from) })
		for i := 1; i < len(l); i++ {
			if l[i].from < l[i-1].to {
				t.Fatalf("two lists share memory: %s", words(t, a.p))
			}
		}
	}
}

func TestManyGoroutines(t *testing.T) { // Z1, Z7
	d := &dice{13}
	var wait sync.WaitGroup
	for range 50 {
		a := d.asked()
		want := fmt.Sprint(a.everything())
		for range 8 {
			wait.Go(func() {
				for range 5 {
					if got := fmt.Sprint(a.everything()); got != want {
						t.Errorf("another result for the same arguments: %s, %s", short(got), short(want))
					}
				}
			})
		}
	}
	wait.Wait()
}

// filled has empty lists in the place of nil ones.
func filled(l []api.Act) []api.Act {
	out := []api.Act{}
	for _, a := range l {
		a.Then, a.Else, a.Args, a.Offers = filled(a.Then), filled(a.Else), append([]string{}, a.Args...), append([]api.Offer{}, a.Offers...)
		a.Expr.Args = append([]api.Expr{}, a.Expr.Args...)
		for i, o := range a.Offers {
			a.Offers[i].Body = filled(o.Body)
		}
		out = append(out, a)
	}
	return out
}

func TestEmptyLists(t *testing.T) { // Z5
	d := &dice{17}
	for i := range 300 {
		p := d.part()
		if i == 0 {
			p = api.Part{Role: "b"}
		}
		q := api.Part{Role: p.Role, Main: filled(p.Main), Locals: []api.Local{}}
		for _, l := range p.Locals {
			q.Locals = append(q.Locals, api.Local{Key: l.Key, Index: l.Index, Params: l.Params, Body: filled(l.Body)})
		}
		mail := d.mail(5)
		want := everything(p, nil, mail, 50, nil, p)
		same(t, "empty lists", everything(q, []api.Slot{}, mail, 50, []api.Pair{}, p), want)
		same(t, "empty lists in the other one", everything(p, nil, mail, 50, nil, q), want)
	}
	mixed := read(t, "part b { if x { offer a { l { } } set v 1; } else { offer a { l { } } set v 1; } send a v; }")
	mixed.Main[0].Then = filled(mixed.Main[0].Then)
	q, n, err := part.Slim(mixed)
	same(t, "equal branches", []any{words(t, q), n, err}, []any{"part b { offer a { l { } } set v 1; send a v; }", 3, api.OK})
}
