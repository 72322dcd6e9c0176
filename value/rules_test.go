package value_test

import (
	"fmt"
	"math"
	"reflect"
	"slices"
	"strings"
	"sync"
	"testing"

	"promptbook/api"
	"promptbook/value"
)

// arguments are those of all functions.
type arguments struct {
	A, B  api.Expr
	Name  string
	Slots []api.Slot
	Spans []api.Span
	Words []api.Word
}

// everything is what all functions return.
func everything(g arguments) []any {
	var all []any
	put := func(l ...any) { all = append(all, l...) }
	put(value.CheckSlots(g.Slots))
	n, err := value.Eval(g.A, g.Slots)
	put(n, err)
	names, err := value.Vars(g.A)
	put(names, err)
	n, err = value.Size(g.A)
	put(n, err)
	e, err := value.Simple(g.A)
	put(e, err)
	n, ok, err := value.Differ(g.A, g.B)
	put(n, ok, err)
	e, err = value.Put(g.A, g.Name, g.B)
	put(e, err)
	n, m, err := value.Bounds(g.A, g.Spans)
	put(n, m, err)
	c, err := value.Code(g.A)
	put(c, err)
	e, err = value.Back(g.Words)
	put(e, err)
	n, m, err = value.Exec(g.Words, g.Slots)
	put(n, m, err)
	n, err = value.Stack(g.A)
	put(n, err)
	return all
}

// nothing is what all functions return with an error, and CheckSlots with another one.
func nothing(slots, err api.Errno) []any {
	return []any{slots, 0, err, []string{}, err, 0, err, api.Expr{}, err, 0, false, err, api.Expr{}, err, 0, 0, err, []api.Word{}, err, api.Expr{}, err, 0, 0, err, 0, err}
}

// ofExprs are those of the results of everything that come from expressions.
func ofExprs(all []any) []any {
	return append(slices.Clone(all[1:19]), all[24:]...)
}

// arguments are right ones, and wrong ones seldom.
func (d *dice) arguments() arguments {
	names := []string{"x", "y", "z"}[:1+d.roll(3)]
	g := arguments{A: d.expr(5, names...), B: d.expr(3, names...), Name: names[0]}
	g.Slots, _ = d.slots(names...)
	for _, name := range names {
		g.Spans = append(g.Spans, d.span(name))
	}
	g.Words, _ = value.Code(g.B)
	if d.roll(6) == 0 {
		slices.Reverse(g.Words)
		slices.Reverse(g.Slots)
		slices.Reverse(g.Spans)
	}
	return g
}

func TestAllArguments(t *testing.T) { // Z1, Z6: every call returns
	ints := []int{math.MinInt, -1, 0, 1, 2, 3, 8, 9, 10, 999, 1000, math.MaxInt}
	for _, a := range ints {
		for _, b := range ints {
			for _, name := range []string{"", "x", "if"} {
				everything(arguments{
					A:     api.Expr{Op: a, N: b, Name: name, Args: []api.Expr{{Op: b, N: a}}},
					B:     api.Expr{Op: a, N: b, Name: name},
					Name:  name,
					Slots: []api.Slot{{Name: "x", Value: a}, {Name: name, Value: b}},
					Spans: []api.Span{{Name: "x", Low: a, High: b}, {Name: name}},
					Words: []api.Word{{Op: a, N: b, Name: name}, {Op: b, N: a, Name: name}},
				})
			}
		}
	}
	const most = 200_000
	long := strings.Repeat("x", most)
	same(t, "many of all", everything(arguments{
		A:     api.Expr{Op: api.OpAdd, Args: make([]api.Expr, most)},
		B:     nots(most, variable(long)),
		Name:  long,
		Slots: make([]api.Slot, most),
		Spans: make([]api.Span, most),
		Words: make([]api.Word, most),
	})[:3], []any{api.ErrLarge, 0, api.ErrForm})
	same(t, "long names", everything(arguments{
		A: variable(long), B: variable(long), Name: long, Slots: []api.Slot{{Name: long}}, Spans: []api.Span{{Name: long}}, Words: []api.Word{{Op: api.OpVar, Name: long}},
	}), nothing(api.ErrName, api.ErrName))
}

func TestErrorsAreAlone(t *testing.T) { // Z3
	words := []api.Word{{Op: api.OpNumber, N: -1}}
	for want, e := range wrong() {
		g := arguments{A: e, Name: "x", B: number(1), Words: words}
		same(t, short(e), ofExprs(everything(g)), ofExprs(nothing(api.OK, want)))
	}
	loop := []api.Expr{{Op: api.OpAdd}, {Op: api.OpNumber}} // an expression that is in itself
	loop[0].Args = loop
	same(t, "a loop", ofExprs(everything(arguments{A: loop[0]})), ofExprs(nothing(api.OK, api.ErrLarge)))
	same(t, "all", everything(arguments{A: number(-1), B: number(1), Words: words}), nothing(api.OK, api.ErrArg))
}

// roomy gives a list more memory than it needs, filled with what must neither be read nor changed.
func roomy[T any](l []T, no T) []T {
	return append(slices.Clone(l), no, no)[:len(l)]
}

func roomyExpr(e api.Expr) api.Expr {
	var args []api.Expr
	for _, a := range e.Args {
		args = append(args, roomyExpr(a))
	}
	e.Args = roomy(args, api.Expr{Op: 77})
	return e
}

func roomyArguments(g arguments) arguments {
	return arguments{
		A:     roomyExpr(g.A),
		B:     roomyExpr(g.B),
		Name:  g.Name,
		Slots: roomy(g.Slots, api.Slot{Name: "NO", Value: -7}),
		Spans: roomy(g.Spans, api.Span{Name: "NO", Low: -7}),
		Words: roomy(g.Words, api.Word{Op: 77}),
	}
}

// lists visits all lists of a value, also what is in their memory behind their lengths.
func lists(v reflect.Value, visit func(list reflect.Value)) {
	switch v.Kind() {
	case reflect.Slice:
		all := v.Slice(0, v.Cap())
		visit(all)
		for i := range all.Len() {
			lists(all.Index(i), visit)
		}
	case reflect.Interface:
		lists(v.Elem(), visit)
	case reflect.Struct:
		for i := range v.NumField() {
			lists(v.Field(i), visit)
		}
	}
}

// whole is the text of all that is in the memory of a value's lists.
func whole(x any) string {
	var b strings.Builder
	lists(reflect.ValueOf(x), func(list reflect.Value) { fmt.Fprintln(&b, list) })
	return b.String()
}

func TestArgumentsStay(t *testing.T) { // Z2
	d := dice{9}
	for range 500 {
		g := d.arguments()
		want := fmt.Sprint(everything(g))
		g = roomyArguments(g)
		before := whole(g)
		got := fmt.Sprint(everything(g))
		same(t, "an argument", whole(g), before)
		same(t, "what is behind the length", got, want)
	}
}

// place is where a list is in memory.
type place struct{ from, to uintptr }

func TestResultsAreNew(t *testing.T) { // Z2
	d := dice{10}
	for range 500 {
		g := d.arguments()
		g = roomyArguments(g)
		all := []any{g, everything(g), everything(g)}
		var l []place
		for _, x := range all {
			lists(reflect.ValueOf(x), func(list reflect.Value) {
				if n := uintptr(list.Cap()) * list.Type().Elem().Size(); n > 0 {
					l = append(l, place{list.Pointer(), list.Pointer() + n})
				}
			})
		}
		slices.SortFunc(l, func(x, y place) int { return int(x.from) - int(y.from) })
		for i := 1; i < len(l); i++ {
			if l[i].from < l[i-1].to {
				t.Fatalf("two lists share memory: %s, %s", text(t, g.A), text(t, g.B))
			}
		}
	}
}

func TestManyGoroutines(t *testing.T) { // Z1, Z7
	d := dice{11}
	var wait sync.WaitGroup
	for range 50 {
		g := d.arguments()
		want := fmt.Sprint(everything(g))
		for range 8 {
			wait.Go(func() {
				for range 5 {
					if got := fmt.Sprint(everything(g)); got != want {
						t.Errorf("another result for the same arguments: %s, %s", got, want)
					}
				}
			})
		}
	}
	wait.Wait()
}

func TestEmptyLists(t *testing.T) { // Z5
	filled := api.Expr{Op: api.OpVar, Name: "x", Args: []api.Expr{}}
	one := everything(arguments{A: variable("x"), B: variable("x"), Name: "x"})
	other := everything(arguments{A: filled, B: filled, Name: "x", Slots: []api.Slot{}, Spans: []api.Span{}, Words: []api.Word{}})
	same(t, "empty lists", other, one)
	e, err := value.Simple(op(api.OpSub, filled, variable("x")))
	same(t, "equal Args", []any{e, err}, []any{number(0), api.OK})
}
