package run_test

import (
	"fmt"
	"math"
	"reflect"
	"slices"
	"strings"
	"sync"
	"testing"

	"promptbook/api"
	"promptbook/run"
)

// arguments are those of all functions.
type arguments struct {
	P, Q       api.Play
	Stores     []api.Store
	All        [][]api.Store
	Fuel       int
	Role, Name string
	Value      int
	Events     []api.Event
	Text, Line string
}

// everything is what all functions return.
func everything(g arguments) []any {
	var all []any
	put := func(l ...any) { all = append(all, l...) }
	put(run.CheckStores(g.Stores), run.CheckEvents(g.Events))
	s, l, err := run.Run(g.P, g.Stores, g.Fuel)
	put(s, l, err)
	numbers, err := run.Done(g.P, g.Stores, g.Fuel)
	put(numbers, err)
	n, is, err := run.Fuel(g.P, g.Stores)
	put(n, is, err)
	s, l, is, err = run.Mid(g.P, g.Stores, g.Fuel)
	put(s, l, is, err)
	l, err = run.Actions(g.Events, g.Role)
	put(l, err)
	n, err = run.Value(g.Stores, g.Role, g.Name)
	put(n, err)
	s, err = run.With(g.Stores, g.Role, g.Name, g.Value)
	put(s, err)
	numbers, err = run.Never(g.P, g.All, g.Fuel)
	put(numbers, err)
	v, err := run.Sources(g.P, g.Stores, g.Fuel, g.Role, g.Name)
	put(v, err)
	n, is, err = run.Differ(g.P, g.Q, g.All, g.Fuel)
	put(n, is, err)
	text, err := run.StoresText(g.Stores)
	put(text, err)
	s, n, err = run.ReadStores(g.Text)
	put(s, n, err)
	text, err = run.EventsText(g.Events)
	put(text, err)
	l, n, err = run.ReadEvents(g.Line)
	put(l, n, err)
	return all
}

// nothing is what all functions return with errors: those of stores, events, plays and texts.
func nothing(s, l, p, text api.Errno) []any {
	return []any{s, l, []int{}, []int{}, p, []int{}, p, 0, false, p, []int{}, []int{}, false, p, []int{}, l, 0, s, []int{}, s, []int{}, p, []int{}, p, 0, false, p, "", s, []int{}, 0, text, "", l, []int{}, 0, text}
}

// arguments are right ones, and wrong ones seldom.
func (d *dice) arguments() arguments {
	g := arguments{P: d.play(), Q: d.play(), Fuel: 30 + d.roll(100), Role: d.pick("a", "b", "c"), Name: d.pick(names...), Value: d.roll(3), Events: d.events()}
	roles := rolesOf(g.P)
	g.Stores = d.stores(roles)
	for range d.roll(4) {
		g.All = append(g.All, d.stores(roles))
	}
	if d.roll(2) == 0 {
		g.Q = g.P
		g.Q.Main = g.P.Main[:len(g.P.Main)/2]
	}
	g.Text, _ = run.StoresText(g.Stores)
	g.Line, _ = run.EventsText(g.Events)
	if d.roll(6) == 0 {
		slices.Reverse(g.Stores)
		g.Fuel = 0
	}
	return g
}

func TestAllArguments(t *testing.T) { // Z1, Z6: every call returns
	ints := []int{math.MinInt, -1, 0, 1, 2, 3, 5, 7, 1000, api.MaxFuel, math.MaxInt}
	good := read(t, example)
	for _, a := range ints {
		for _, b := range ints {
			for _, name := range []string{"", "a", "if"} {
				p := api.Play{Main: []api.Step{{Kind: a, Role: "a", Var: "x", Expr: number(b)}}}
				s := []api.Store{{Role: "a", Vars: []api.Slot{{Name: "x", Value: a}}}, {Role: name, Vars: []api.Slot{{Name: name, Value: b}}}}
				l := []api.Event{{Role: "b", Kind: a, With: name, Value: b}, {Role: name, Kind: b, Name: name, Value: a}}
				everything(arguments{p, good, s, [][]api.Store{nil, s}, a, name, "x", b, l, "a x 1", "a"})
				everything(arguments{good, p, s[:1], [][]api.Store{s[:1]}, b, "a", name, a, l[:1], "\n", "\n"})
				everything(arguments{good, good, nil, nil, a, name, name, b, nil, "", ""})
			}
		}
	}
	const most = 200_000
	long := strings.Repeat("a", most)
	many := arguments{
		api.Play{Main: make([]api.Step, most)}, api.Play{Procs: make([]api.Proc, most)}, make([]api.Store, most), make([][]api.Store, most), most, long, long, most,
		make([]api.Event, most), strings.Repeat("\n", most), long,
	}
	same(t, "many of all", everything(many), nothing(api.ErrLarge, api.ErrLarge, api.ErrKind, api.ErrSyntax))
	everything(arguments{P: good, Q: good, Role: long, Name: long, Stores: []api.Store{{Role: long, Vars: make([]api.Slot, most)}}, Events: []api.Event{{Role: long}}})
	everything(arguments{P: good, Q: good, All: make([][]api.Store, most), Stores: []api.Store{{Role: "a", Vars: make([]api.Slot, most)}}})
}

func TestErrorsAreAlone(t *testing.T) { // Z3
	p, bad := read(t, example), api.Play{Main: []api.Step{{}}}
	s := stores("b.x=1 a.x=1")
	l := []api.Event{{Role: "a", Kind: api.ActCall}}
	g := arguments{bad, p, s, [][]api.Store{s}, -1, "A", "X", -1, l, "a x 1\nb y 2\na x 3\n", "a if 2\n"}
	want := nothing(api.ErrOrder, api.ErrKind, api.ErrKind, api.ErrArg)
	want[len(want)-6] = api.ErrOrder // of ReadStores; the one behind it is of ReadEvents
	same(t, "all", everything(g), want)
}

// roomy gives a list more memory than it needs, filled with what must neither be read nor changed.
func roomy[T any](l []T, no T) []T {
	return append(slices.Clone(l), no, no)[:len(l)]
}

func roomySteps(l []api.Step) []api.Step {
	var out []api.Step
	for _, s := range l {
		s.Expr = roomyExpr(s.Expr)
		s.Args = roomy(s.Args, "NO")
		s.Then, s.Else = roomySteps(s.Then), roomySteps(s.Else)
		out = append(out, s)
	}
	return roomy(out, api.Step{Kind: 77, Role: "NO"})
}

func roomyExpr(e api.Expr) api.Expr {
	var args []api.Expr
	for _, a := range e.Args {
		args = append(args, roomyExpr(a))
	}
	e.Args = roomy(args, api.Expr{Op: 77})
	return e
}

func roomyPlay(p api.Play) api.Play {
	var procs []api.Proc
	for _, q := range p.Procs {
		procs = append(procs, api.Proc{Key: q.Key, Params: roomy(q.Params, "NO"), Body: roomySteps(q.Body)})
	}
	return api.Play{Procs: roomy(procs, api.Proc{Key: "NO"}), Main: roomySteps(p.Main)}
}

func roomyStores(l []api.Store) []api.Store {
	var out []api.Store
	for _, s := range l {
		out = append(out, api.Store{Role: s.Role, Vars: roomy(s.Vars, api.Slot{Name: "NO", Value: -7})})
	}
	return roomy(out, api.Store{Role: "NO"})
}

func roomyArguments(g arguments) arguments {
	g.P, g.Q = roomyPlay(g.P), roomyPlay(g.Q)
	g.Stores = roomyStores(g.Stores)
	var all [][]api.Store
	for _, s := range g.All {
		all = append(all, roomyStores(s))
	}
	g.All = append(all, []api.Store{{Role: "NO"}}, []api.Store{{Role: "NO"}})[:len(all)]
	g.Events = roomy(g.Events, api.Event{Role: "NO", Kind: 77})
	return g
}

// lists visits all lists of a value, also what is in their memory behind their lengths.
func lists(v reflect.Value, visit func(list reflect.Value)) {
	switch v.Kind() {
	case reflect.Slice:
		all := v.Slice(0, v.Cap())
		visit(all)
		for i := range all.Len() {
			lists(all.Index(i), visit)
		}
	case reflect.Interface:
		lists(v.Elem(), visit)
	case reflect.Struct:
		for i := range v.NumField() {
			lists(v.Field(i), visit)
		}
	}
}

// whole is the text of all that is in the memory of a value's lists.
func whole(x any) string {
	var b strings.Builder
	lists(reflect.ValueOf(x), func(list reflect.Value) { fmt.Fprintln(&b, list) })
	return b.String()
}

func TestArgumentsStay(t *testing.T) { // Z2
	d := &dice{11}
	for range 250 {
		g := d.arguments()
		want := fmt.Sprint(everything(g))
		g = roomyArguments(g)
		before := whole(g)
		got := fmt.Sprint(everything(g))
		same(t, "an argument", whole(g), before)
		same(t, "what is behind the length", got, want)
	}
}

// place is where a list is in memory.
type place struct{ from, to uintptr }

func TestResultsAreNew(t *testing.T) { // Z2
	d := &dice{12}
	for range 250 {
		g := roomyArguments(d.arguments())
		all := []any{g, everything(g), everything(g)}
		var l []place
		for _, x := range all {
			lists(reflect.ValueOf(x), func(list reflect.Value) {
				if n := uintptr(list.Cap()) * list.Type().Elem().Size(); n > 0 {
					l = append(l, place{list.Pointer(), list.Pointer() + n})
				}
			})
		}
		slices.SortFunc(l, func(x, y place) int { return int(x.from) - int(y.from) })
		for i := 1; i < len(l); i++ {
			if l[i].from < l[i-1].to {
				t.Fatalf("two lists share memory: %s", text(t, g.P))
			}
		}
	}
}

func TestManyGoroutines(t *testing.T) { // Z1, Z7
	d := &dice{13}
	var wait sync.WaitGroup
	for range 50 {
		g := d.arguments()
		want := fmt.Sprint(everything(g))
		for range 8 {
			wait.Go(func() {
				for range 5 {
					if got := fmt.Sprint(everything(g)); got != want {
						t.Errorf("another result for the same arguments: %s, %s", got, want)
					}
				}
			})
		}
	}
	wait.Wait()
}

func TestEmptyLists(t *testing.T) { // Z5
	choice := api.Step{Kind: api.StepIf, Role: "a", Expr: api.Expr{Op: api.OpVar, Name: "v"}}
	filled := choice
	filled.Then, filled.Else, filled.Args, filled.Expr.Args = []api.Step{}, []api.Step{}, []string{}, []api.Expr{}
	one := arguments{P: api.Play{Main: []api.Step{choice}}, Q: api.Play{}, All: [][]api.Store{nil}, Fuel: 2, Role: "a", Name: "v"}
	other := arguments{P: api.Play{Procs: []api.Proc{}, Main: []api.Step{filled}}, Q: api.Play{Procs: []api.Proc{}, Main: []api.Step{}}, All: [][]api.Store{{}}, Fuel: 2, Role: "a", Name: "v"}
	other.Stores, other.Events = []api.Store{}, []api.Event{}
	same(t, "empty lists", everything(other), everything(one))
	one.All, other.All = nil, [][]api.Store{}
	same(t, "no runs", everything(other), everything(one))
}

// turns has procedures with MaxRoles Params; the call in each one turns them, behind choices in branches, until a counter is done.
func turns(sets, procs int) string {
	var roles, body strings.Builder
	for i := range api.MaxRoles {
		fmt.Fprintf(&roles, ", r%d", i)
	}
	list := "(" + roles.String()[2:] + ")"
	turned := "(" + roles.String()[6:] + ", r0)"
	for i := range sets {
		fmt.Fprintf(&body, "r%d.v%d := v%d; ", i%api.MaxRoles, i, (i+1)%sets)
	}
	var b strings.Builder
	for i := range procs {
		next := fmt.Sprintf("p%d%s;", (i+1)%procs, turned)
		fmt.Fprintf(&b, "proc p%d%s { if r0.n { r0.n - 1 -> r1.n; %s } else { %s } }\n", i, list, next, body.String())
	}
	return b.String() + "main { p0" + list + "; }"
}

func TestGreatestRuns(t *testing.T) { // Z1: every call returns
	var sum strings.Builder
	for i := range 1900 {
		fmt.Fprintf(&sum, "a.s := s + v%d; ", i)
	}
	for what, c := range map[string]struct{ text, first, of string }{
		"turns":                    {turns(1900, 1), "r0.n=999", "r5.v77"},
		"turns of many procedures": {turns(30, 50), "r0.n=999", "r5.v17"},
		"many sources":             {"proc p(a) { if a.n { a.n := n - 1; p(a); } else {" + sum.String() + "} a.t := s; } main { p(a); }", "a.n=999", "a.t"},
		"an endless one":           {"proc p(x) { p(x); } main { p(a); }", "", "a.x"},
		"an endless deep one":      {"proc p(x) { if x.1 { p(x); } else { x.y := 1; } x.y := 2; } main { p(a); }", "", "a.y"},
	} {
		v := variable(c.of)
		g := arguments{P: read(t, c.text), Stores: stores(c.first), Fuel: api.MaxFuel, Role: v.Role, Name: v.Name}
		g.Q = g.P
		for range api.MaxBunch {
			g.All = append(g.All, g.Stores)
		}
		for i, x := range everything(g) {
			if err, ok := x.(api.Errno); ok && err != api.OK && err != api.ErrFull {
				t.Errorf("%s: result %d is error %d", what, i, err)
			}
		}
	}
}
