package project_test

import (
	"fmt"
	"math"
	"reflect"
	"slices"
	"strings"
	"sync"
	"testing"

	"promptbook/api"
	"promptbook/project"
)

func TestAllArguments(t *testing.T) { // Z1, Z6: every call returns
	ints := []int{math.MinInt, -1, 0, 1, 2, 3, 4, 5, 6, 1000, math.MaxInt}
	for _, a := range ints {
		for _, b := range ints {
			for _, role := range []string{"", "a", "b", "if"} {
				e := api.Expr{Op: a, N: b, Args: []api.Expr{{Op: b}}}
				s := api.Step{Kind: a, Role: "a", To: "b", Var: "v", Expr: e, Then: []api.Step{{Kind: b}}, Args: []string{""}}
				everything(api.Play{Procs: []api.Proc{{Key: "p", Params: []string{"x"}, Body: []api.Step{s}}}, Main: []api.Step{s}}, role)
				everything(api.Play{Main: []api.Step{{Kind: a, Role: "a", Var: "v", Expr: number(b)}}}, role)
			}
		}
	}
	const most = 200_000
	long := strings.Repeat("a", most)
	same(t, "many steps", everything(api.Play{Main: make([]api.Step, most)}, long), nothing(api.ErrKind))
	same(t, "many procedures", everything(api.Play{Procs: make([]api.Proc, most)}, long), nothing(api.ErrLarge))
	everything(read(t, example), long)
}

func TestErrorsAreAlone(t *testing.T) { // Z3, Z4
	p := read(t, "main { if a.x { a.1 -> b.y; } else { } a.x -> a.y; }")
	same(t, "not well formed", everything(p, "b"), nothing(api.ErrTwice))
	same(t, "no name", everything(p, "B"), nothing(api.ErrTwice))
	all := everything(read(t, "main { if a.x { a.1 -> b.y; } else { } }"), "b")
	same(t, "without a projection", all[:4], nothing(api.ErrRule)[:4])
	same(t, "without a projection", all[11:13], nothing(api.ErrRule)[11:13])
}

// roomy gives a list more memory than it needs, filled with what must neither be read nor changed.
func roomy[T any](l []T, no T) []T {
	return append(slices.Clone(l), no, no)[:len(l)]
}

func roomySteps(l []api.Step) []api.Step {
	var out []api.Step
	for _, s := range l {
		s.Expr = roomyExpr(s.Expr)
		s.Args = roomy(s.Args, "NO")
		s.Then, s.Else = roomySteps(s.Then), roomySteps(s.Else)
		out = append(out, s)
	}
	return roomy(out, api.Step{Kind: 77, Role: "NO"})
}

func roomyExpr(e api.Expr) api.Expr {
	var args []api.Expr
	for _, a := range e.Args {
		args = append(args, roomyExpr(a))
	}
	e.Args = roomy(args, api.Expr{Op: 77})
	return e
}

func roomyPlay(p api.Play) api.Play {
	var procs []api.Proc
	for _, q := range p.Procs {
		procs = append(procs, api.Proc{Key: q.Key, Params: roomy(q.Params, "NO"), Body: roomySteps(q.Body)})
	}
	return api.Play{Procs: roomy(procs, api.Proc{Key: "NO"}), Main: roomySteps(p.Main)}
}

// lists visits all lists of a value, also what is in their memory behind their lengths.
func lists(v reflect.Value, visit func(list reflect.Value)) {
	switch v.Kind() {
	case reflect.Slice:
		all := v.Slice(0, v.Cap())
		visit(all)
		for i := range all.Len() {
			lists(all.Index(i), visit)
		}
	case reflect.Interface:
		lists(v.Elem(), visit)
	case reflect.Struct:
		for i := range v.NumField() {
			lists(v.Field(i), visit)
		}
	}
}

// whole is the text of all that is in the memory of a value's lists.
func whole(x any) string {
	var b strings.Builder
	lists(reflect.ValueOf(x), func(list reflect.Value) { fmt.Fprintln(&b, list) })
	return b.String()
}

func TestArgumentsStay(t *testing.T) { // Z2
	d := &dice{11}
	for range 250 {
		p := d.play()
		want := fmt.Sprint(everything(p, "b"))
		p = roomyPlay(p)
		before := whole(p)
		got := fmt.Sprint(everything(p, "b"))
		same(t, "an argument", whole(p), before)
		same(t, "what is behind the length", got, want)
	}
}

// span is where a list is in memory.
type span struct{ from, to uintptr }

func TestResultsAreNew(t *testing.T) { // Z2
	d := &dice{12}
	for i := range 250 {
		p := roomyPlay(d.play())
		if i%2 == 0 {
			p, _, _ = project.Amend(p)
		}
		all := []any{p, everything(p, "b"), everything(p, "b")}
		var l []span
		lists(reflect.ValueOf(all), func(list reflect.Value) {
			if n := uintptr(list.Cap()) * list.Type().Elem().Size(); n > 0 {
				l = append(l, span{list.Pointer(), list.Pointer() + n})
			}
		})
		slices.SortFunc(l, func(x, y span) int { return int(x.from) - int(y.from) })
		for i := 1; i < len(l); i++ {
			if l[i].from < l[i-1].to {
				t.Fatalf("two lists share memory: %s", text(t, p))
			}
		}
	}
}

func TestManyGoroutines(t *testing.T) { // Z1, Z7
	d := &dice{13}
	var wait sync.WaitGroup
	for range 50 {
		p := d.play()
		want := fmt.Sprint(everything(p, "b"))
		for range 8 {
			wait.Go(func() {
				for range 5 {
					if got := fmt.Sprint(everything(p, "b")); got != want {
						t.Errorf("another result for the same arguments: %s, %s", got, want)
					}
				}
			})
		}
	}
	wait.Wait()
}

func TestEmptyLists(t *testing.T) { // Z5
	choice := api.Step{Kind: api.StepIf, Role: "a", Expr: name("v")}
	tell := api.Step{Kind: api.StepTell, Role: "b", To: "c", Label: "l"}
	filled, other := choice, tell
	filled.Then, filled.Else, filled.Args, filled.Expr.Args = []api.Step{}, []api.Step{}, []string{}, []api.Expr{}
	other.Then, other.Else, other.Args, other.Expr.Args = []api.Step{}, []api.Step{}, []string{}, []api.Expr{}
	around := func(then, otherwise api.Step) api.Play {
		return api.Play{Main: []api.Step{{Kind: api.StepIf, Role: "d", Expr: number(1), Then: []api.Step{then, tell}, Else: []api.Step{otherwise, other}}}}
	}
	for _, role := range []string{"a", "b", "c", "d"} {
		same(t, "empty lists "+role, everything(around(filled, choice), role), everything(around(choice, choice), role))
		same(t, "empty lists "+role, everything(around(choice, filled), role), everything(around(choice, choice), role))
	}
	part, err := project.Project(around(choice, filled), "a")
	same(t, "merged", []any{brief(part.Main), err}, []any{"if v { } else { }; ", api.OK})
	same(t, "nothing", everything(api.Play{Procs: []api.Proc{}, Main: []api.Step{}}, "a"), everything(api.Play{}, "a"))
}
