package net_test

import (
	"fmt"
	"math"
	"reflect"
	"slices"
	"strings"
	"sync"
	"testing"

	"promptbook/api"
	"promptbook/net"
)

func TestAllArguments(t *testing.T) { // Z1, Z6: every call returns
	ints := []int{math.MinInt, -1, 0, 1, 2, 3, 4, 5, 6, 7, 8, 1000, math.MaxInt}
	for _, a := range ints {
		for _, b := range ints {
			for _, role := range []string{"", "a", "b", "if"} {
				e := api.Expr{Op: a, N: b, Args: []api.Expr{{Op: b}}}
				one := api.Act{Kind: a, With: role, Var: "v", Label: "l", Expr: e, Then: []api.Act{{Kind: b}}, Offers: []api.Offer{{}}, Proc: "p", Index: b, Args: []string{""}}
				few := api.Act{Kind: a, Proc: "p", Index: b, Args: []string{role}}
				set := api.Act{Kind: api.ActSet, Var: "v", Expr: number(b)}
				s := []api.Store{{Role: role, Vars: []api.Slot{{Name: "v", Value: b}}}}
				for _, p := range []api.Part{{Role: role, Main: []api.Act{one}}, {Role: role, Main: []api.Act{few}, Locals: []api.Local{{Key: "p", Index: b, Params: []string{"x"}}}}, {Role: role, Main: []api.Act{set}}} {
					for _, l := range [][]api.Part{{p}, {p, {Role: "b"}}, nil} {
						everything(l, l, nil, []string{role}, []int{b}, a, b)
						everything(l, nil, s, []string{"a", "b"}, []int{a, b}, b, a)
					}
				}
			}
		}
	}
	const most = 200_000
	long := strings.Repeat("a", most)
	p := read(t, example)
	everything([]api.Part{{Role: long}}, nil, nil, nil, nil, 0, 0)
	everything([]api.Part{{Role: "a", Main: make([]api.Act, most)}}, p, nil, nil, nil, 0, 1)
	same(t, "many parts", everything(make([]api.Part, most), p, nil, nil, nil, 0, 1), nothing(api.ErrLarge))
	same(t, "many stores", everything(p, p, make([]api.Store, most), nil, nil, 0, 1), nothing(api.ErrLarge))
	_, err := net.Able(p, nil, make([]string, most))
	same(t, "many moves", err, api.ErrLarge)
	_, err = net.Able(p, nil, []string{long})
	same(t, "a long name", err, api.ErrNone)
	_, _, _, err = net.Run(p, nil, make([]int, most), 4)
	same(t, "many choices", err, api.OK)
	_, _, _, err = net.Run(p, nil, append(make([]int, most-1), -1), 4)
	same(t, "many choices, and a wrong one", err, api.ErrArg)
}

func TestErrorsAreAlone(t *testing.T) { // Z3, Z4
	p := read(t, example)
	p[1].Main[0].Expr.Op = 77
	same(t, "wrong", everything(p, p, nil, nil, nil, 0, 1), nothing(api.ErrKind))
	same(t, "wrong, with more that is", everything(p, nil, []api.Store{{}}, make([]string, api.MaxMoves+1), []int{-1}, -1, 0), nothing(api.ErrKind))
	p = read(t, example)
	all := everything(p, p, nil, []string{"a", "a"}, []int{0}, 0, 2)
	same(t, "errors of the functions", all, []any{0, api.State{}, "[]", api.ErrRule, "[]", api.ErrRule, "[]", "[]", "[]", api.ErrFull, "[]", api.ErrFull, "[]", api.ErrFull, api.Explored{}, api.ErrFull, "[]", false, api.ErrFull, "[]", api.ErrFull, false, api.ErrFull})
}

// roomy gives a list more memory than it needs, filled with what must neither be read nor changed.
func roomy[T any](l []T, no T) []T {
	return append(slices.Clone(l), no, no)[:len(l)]
}

func roomyExpr(e api.Expr) api.Expr {
	var args []api.Expr
	for _, a := range e.Args {
		args = append(args, roomyExpr(a))
	}
	e.Args = roomy(args, api.Expr{Op: 77})
	return e
}

func roomyActs(l []api.Act) []api.Act {
	var out []api.Act
	for _, a := range l {
		a.Expr = roomyExpr(a.Expr)
		a.Args = roomy(a.Args, "NO")
		a.Then, a.Else = roomyActs(a.Then), roomyActs(a.Else)
		var offers []api.Offer
		for _, o := range a.Offers {
			offers = append(offers, api.Offer{Label: o.Label, Body: roomyActs(o.Body)})
		}
		a.Offers = roomy(offers, api.Offer{Label: "NO"})
		out = append(out, a)
	}
	return roomy(out, api.Act{Kind: 77, With: "NO"})
}

func roomyParts(l []api.Part) []api.Part {
	var out []api.Part
	for _, p := range l {
		var locals []api.Local
		for _, l := range p.Locals {
			locals = append(locals, api.Local{Key: l.Key, Index: l.Index, Params: roomy(l.Params, "NO"), Body: roomyActs(l.Body)})
		}
		out = append(out, api.Part{Role: p.Role, Locals: roomy(locals, api.Local{Key: "NO"}), Main: roomyActs(p.Main)})
	}
	return roomy(out, api.Part{Role: "NO"})
}

// inside visits all lists of a value, also what is in their memory behind their lengths.
func inside(v reflect.Value, visit func(list reflect.Value)) {
	switch v.Kind() {
	case reflect.Slice:
		whole := v.Slice(0, v.Cap())
		visit(whole)
		for i := range whole.Len() {
			inside(whole.Index(i), visit)
		}
	case reflect.Interface:
		inside(v.Elem(), visit)
	case reflect.Struct:
		for i := range v.NumField() {
			inside(v.Field(i), visit)
		}
	}
}

// whole is the text of all that is in the memory of a value's lists.
func whole(x any) string {
	var b strings.Builder
	inside(reflect.ValueOf(x), func(list reflect.Value) { fmt.Fprintln(&b, list) })
	return b.String()
}

// asked are arguments for all functions.
type asked struct {
	p, q    []api.Part
	s       []api.Store
	moves   []string
	choices []int
}

func (d *dice) asked() asked {
	p, s := d.company()
	_, _, moves, _ := walk(p, s, d.roll(12), func(k int, movers []int) int { return movers[d.roll(len(movers))] })
	return asked{p: p, q: d.changed(p), s: s, moves: moves, choices: []int{d.roll(5), d.roll(5), 1}}
}

func (a asked) roomy() asked {
	var s []api.Store
	for _, one := range a.s {
		s = append(s, api.Store{Role: one.Role, Vars: roomy(one.Vars, api.Slot{Name: "NO"})})
	}
	return asked{roomyParts(a.p), roomyParts(a.q), roomy(s, api.Store{Role: "NO"}), roomy(a.moves, "NO"), roomy(a.choices, -1)}
}

func (a asked) everything() []any {
	return everything(a.p, a.q, a.s, a.moves, a.choices, 2, 40)
}

func TestArgumentsStay(t *testing.T) { // Z2
	d := &dice{11}
	for range 300 {
		a := d.asked()
		want := fmt.Sprint(a.everything())
		a = a.roomy()
		before := whole(a)
		got := fmt.Sprint(a.everything())
		same(t, "an argument", whole(a), before)
		same(t, "what is behind the length", got, want)
	}
}

// span is where a list is in memory.
type span struct{ from, to uintptr }

func TestResultsAreNew(t *testing.T) { // Z2
	d := &dice{12}
	for range 300 {
		a := d.asked().roomy()
		var l []span
		inside(reflect.ValueOf([]any{a, a.everything(), a.everything()}), func(list reflect.Value) {
			if n := uintptr(list.Cap()) * list.Type().Elem().Size(); n > 0 {
				l = append(l, span{list.Pointer(), list.Pointer() + n})
			}
		})
		slices.SortFunc(l, func(x, y span) int { return int(x.from) - int(y.from) })
		for i := 1; i < len(l); i++ {
			if l[i].from < l[i-1].to {
				t.Fatalf("two lists share memory: %s", text(t, a.p))
			}
		}
	}
	// Acts that are done again and again stand in the rest as often.
	p := read(t, "part a { call p 0 (a, b); } local p 0 (x, y) { call p 0 (x, y); if v + 1 { offer y { l { call p 0 (x, y); } } } else { } }")
	state, _, _ := net.Reach(p, nil, []string{"a", "a", "a"})
	before := fmt.Sprint(state.Nodes[0].Rest[2:])
	first := &state.Nodes[0].Rest[1]
	first.Expr.Args[0].Name, first.Then[0].Offers[0].Label, first.Then[0].Offers[0].Body[0].Args[0] = "w", "m", "z"
	same(t, "other acts", fmt.Sprint(state.Nodes[0].Rest[2:]), before)
}

func TestManyGoroutines(t *testing.T) { // Z1, Z7
	d := &dice{13}
	var wait sync.WaitGroup
	for range 50 {
		a := d.asked()
		want := fmt.Sprint(a.everything())
		for range 8 {
			wait.Go(func() {
				for range 5 {
					if got := fmt.Sprint(a.everything()); got != want {
						t.Errorf("another result for the same arguments: %s, %s", short(got), short(want))
					}
				}
			})
		}
	}
	wait.Wait()
}

// filled has empty lists in the place of nil ones.
func filled(l []api.Act) []api.Act {
	out := []api.Act{}
	for _, a := range l {
		a.Then, a.Else, a.Args, a.Offers = filled(a.Then), filled(a.Else), append([]string{}, a.Args...), append([]api.Offer{}, a.Offers...)
		a.Expr.Args = append([]api.Expr{}, a.Expr.Args...)
		for i, o := range a.Offers {
			a.Offers[i].Body = filled(o.Body)
		}
		out = append(out, a)
	}
	return out
}

func TestEmptyLists(t *testing.T) { // Z5
	d := &dice{17}
	for range 300 {
		a := d.asked()
		var q []api.Part
		for _, p := range a.p {
			one := api.Part{Role: p.Role, Main: filled(p.Main), Locals: []api.Local{}}
			for _, l := range p.Locals {
				one.Locals = append(one.Locals, api.Local{Key: l.Key, Index: l.Index, Params: l.Params, Body: filled(l.Body)})
			}
			q = append(q, one)
		}
		same(t, "empty lists", everything(q, a.p, append([]api.Store{}, a.s...), append([]string{}, a.moves...), a.choices, 2, 40), everything(a.p, q, a.s, a.moves, a.choices, 2, 40))
	}
	// The branches of p and q are equal, so the states are, too.
	mixed := read(t, "part a { call p 0 (a); } local p 0 (x) { set v 0; if v { } else { } call q 0 (x); } local q 0 (x) { set v 0; if v { } else { } call q 0 (x); }")
	mixed[0].Locals[0].Body = filled(mixed[0].Locals[0].Body)
	told, err := net.Explore(mixed, nil, 0, 10)
	same(t, "equal rests", []any{told, err}, []any{api.Explored{States: 4, Moves: 4}, api.OK})
}
