package check_test

import (
	"fmt"
	"math"
	"reflect"
	"slices"
	"strings"
	"sync"
	"testing"

	"promptbook/api"
	"promptbook/check"
)

func TestAllArguments(t *testing.T) { // Z1, Z6: every call returns
	ints := []int{math.MinInt, -1, 0, 1, 2, 3, 5, 6, 1000, math.MaxInt}
	for _, a := range ints {
		for _, b := range ints {
			e := api.Expr{Op: a, N: b, Args: []api.Expr{{Op: b}}}
			s := api.Step{Kind: a, Role: "a", To: "b", Var: "v", Expr: e, Then: []api.Step{{Kind: b}}, Args: []string{""}}
			p := api.Play{Procs: []api.Proc{{Key: "p", Params: []string{"x"}, Body: []api.Step{s}}}, Main: []api.Step{s}}
			everything(p, []api.Pair{{}}, b)
			everything(api.Play{Main: []api.Step{{Kind: a, Role: "a", Var: "v", Expr: number(b)}}}, []api.Pair{{Name: "a"}}, a)
		}
	}
	const most = 200_000
	same(t, "many pairs", fmt.Sprint(everything(read(t, example), make([]api.Pair, most), 0)[25:]), "[{[] []} 2]")
	everything(api.Play{Procs: make([]api.Proc, most)}, nil, 0)
	everything(api.Play{Main: make([]api.Step, most)}, nil, 0)
}

// turns has MaxProcs procedures with MaxRoles Params; the call in the last one turns them, so that what is found out about one comes to the others one after the other.
func turns(body string) string {
	names := manyNames(api.MaxRoles)
	list := "(" + strings.Join(names, ",") + ")"
	turned := "(" + strings.Join(append(slices.Clone(names[1:]), names[0]), ",") + ")"
	keys := manyNames(api.MaxProcs)
	var b strings.Builder
	for i, key := range keys {
		b.WriteString("proc " + key + list + "{ if n0.v {")
		if i+1 < len(keys) {
			b.WriteString(keys[i+1] + list)
		} else {
			b.WriteString(keys[0] + turned)
		}
		b.WriteString(";} else { } " + body + "}")
	}
	return b.String() + "main { n0" + list + "; }"
}

func TestGreatestPlays(t *testing.T) { // Z1: every call returns
	role := manyNames(api.MaxRoles)
	var differ, many, calls, choices strings.Builder
	for i := range 900 {
		fmt.Fprintf(&differ, "x.v%d := w%d;", i, i)
		fmt.Fprintf(&calls, "p(a%d, b%d);", i, i)
		fmt.Fprintf(&choices, "if a%d.v%d { } else { }", i, i)
	}
	for i := range 30 {
		fmt.Fprintf(&many, "n%d.v%d := v%d;", i%len(role), i, i)
	}
	for what, text := range map[string]string{
		"turns":             turns(""),
		"turns, with sets":  turns(many.String()),
		"turns, with calls": turns(strings.Repeat("n0("+strings.Join(role, ",")+");", 30)),
		"endless":           chain(49, 1, "") + "proc p(x) { p(x); n0(x); } main { p(a); n0(a); }",
		"variables":         "proc p(x, y) {" + differ.String() + "} main {" + calls.String() + "}",
		"choices":           "proc p(x, y) {" + differ.String() + "} main { p(a0, b); " + choices.String() + "}",
	} {
		for i, x := range everything(read(t, text), nil, 3) {
			if err, ok := x.(api.Errno); ok && err != api.OK && err != api.ErrFull {
				t.Errorf("%s: result %d is error %d", what, i, err)
			}
		}
	}
}

// roomy makes all lists of a play have more memory than they need, filled with what must neither be read nor changed.
func roomy(p api.Play) api.Play {
	proc := api.Proc{Key: "NO"}
	p.Procs = append(p.Procs, proc, proc)[:len(p.Procs)]
	for i, q := range p.Procs {
		p.Procs[i].Params = append(q.Params, "NO", "NO")[:len(q.Params)]
		p.Procs[i].Body = roomySteps(q.Body)
	}
	p.Main = roomySteps(p.Main)
	return p
}

func roomySteps(l []api.Step) []api.Step {
	no := api.Step{Kind: 77, Role: "NO"}
	for i, s := range l {
		l[i].Expr = roomyExpr(s.Expr)
		l[i].Args = append(s.Args, "NO", "NO")[:len(s.Args)]
		l[i].Then, l[i].Else = roomySteps(s.Then), roomySteps(s.Else)
		if s.Kind == api.StepIf {
			continue
		}
		l[i].Then, l[i].Else = l[i].Then[:0], l[i].Else[:0]
	}
	return append(l, no, no)[:len(l)]
}

func roomyExpr(e api.Expr) api.Expr {
	for i, a := range e.Args {
		e.Args[i] = roomyExpr(a)
	}
	no := api.Expr{Op: 77}
	e.Args = append(e.Args, no, no)[:len(e.Args)]
	return e
}

// lists visits all lists of a value, also what is in their memory behind their lengths.
func lists(v reflect.Value, visit func(list reflect.Value)) {
	switch v.Kind() {
	case reflect.Slice:
		all := v.Slice(0, v.Cap())
		visit(all)
		for i := range all.Len() {
			lists(all.Index(i), visit)
		}
	case reflect.Interface:
		lists(v.Elem(), visit)
	case reflect.Struct:
		for i := range v.NumField() {
			lists(v.Field(i), visit)
		}
	}
}

// whole is the text of all that is in the memory of a value's lists.
func whole(x any) string {
	var b strings.Builder
	lists(reflect.ValueOf(x), func(list reflect.Value) { fmt.Fprintln(&b, list) })
	return b.String()
}

// randomPairs are right ones and wrong ones.
func (d *dice) randomPairs() []api.Pair {
	var l []api.Pair
	for range d.roll(3) {
		l = append(l, api.Pair{Name: d.pick("a", "b", "c"), Value: d.pick("a", "b", "c", "d", "e")})
	}
	return slices.Grow(l, 2)
}

func TestArgumentsStay(t *testing.T) { // Z2
	d := dice{7}
	for range 300 {
		p, pairs, n := d.play(), d.randomPairs(), d.roll(10)
		want := fmt.Sprint(everything(p, pairs, n))
		p = roomy(p)
		before := whole([]any{p, pairs})
		got := fmt.Sprint(everything(p, pairs, n))
		same(t, "an argument", whole([]any{p, pairs}), before)
		same(t, "what is behind the length", got, want)
	}
}

// span is where a list is in memory.
type span struct{ from, to uintptr }

func TestResultsAreNew(t *testing.T) { // Z2
	d := dice{9}
	for range 300 {
		p, pairs := d.play(), d.randomPairs()
		all := []any{p, pairs, everything(p, pairs, d.roll(10)), everything(p, pairs, d.roll(10))}
		var l []span
		lists(reflect.ValueOf(all), func(list reflect.Value) {
			if n := uintptr(list.Cap()) * list.Type().Elem().Size(); n > 0 {
				l = append(l, span{list.Pointer(), list.Pointer() + n})
			}
		})
		slices.SortFunc(l, func(x, y span) int { return int(x.from) - int(y.from) })
		for i := 1; i < len(l); i++ {
			if l[i].from < l[i-1].to {
				t.Fatalf("two lists share memory: %s", text(t, p))
			}
		}
	}
}

func TestManyGoroutines(t *testing.T) { // Z1, Z7
	d := dice{11}
	var wait sync.WaitGroup
	for range 20 {
		p, pairs := d.play(), d.randomPairs()
		want := fmt.Sprint(everything(p, pairs, 2))
		for range 8 {
			wait.Go(func() {
				for range 5 {
					if got := fmt.Sprint(everything(p, pairs, 2)); got != want {
						t.Errorf("another result for the same arguments: %s, %s", got, want)
					}
				}
			})
		}
	}
	wait.Wait()
}

func TestEmptyLists(t *testing.T) { // Z5
	choice := api.Step{Kind: api.StepIf, Role: "a", Expr: api.Expr{Op: api.OpVar, Name: "v"}}
	filled := choice
	filled.Then, filled.Else, filled.Args, filled.Expr.Args = []api.Step{}, []api.Step{}, []string{}, []api.Expr{}
	one := api.Play{Procs: []api.Proc{{Key: "p", Params: []string{"x"}}}, Main: []api.Step{choice}}
	other := api.Play{Procs: []api.Proc{{Key: "p", Params: []string{"x"}, Body: []api.Step{}}}, Main: []api.Step{filled}}
	same(t, "empty lists", everything(other, []api.Pair{}, 0), everything(one, nil, 0))
	same(t, "nothing", everything(api.Play{Procs: []api.Proc{}, Main: []api.Step{}}, nil, 0), everything(api.Play{}, nil, 0))
	same(t, "Check", check.Check(other), api.OK)
}
