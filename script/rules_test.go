package script_test

import (
	"math"
	"reflect"
	"runtime"
	"slices"
	"strings"
	"sync"
	"testing"

	"promptbook/api"
	"promptbook/script"
)

// everything is what all functions return for a play, an expression, a text and a number.
func everything(p api.Play, e api.Expr, s string, n int) []any {
	var all []any
	put := func(l ...any) { all = append(all, l...) }
	put(script.CheckPlay(p), script.CheckExpr(e))
	text, err := script.Text(p)
	put(text, err)
	text, err = script.ExprText(e)
	put(text, err)
	q, line, err := script.Read(s)
	put(q, line, err)
	x, line, err := script.ReadExpr(s)
	put(x, line, err)
	roles, err := script.Roles(p)
	put(roles, err)
	steps, depth, err := script.Count(p)
	put(steps, depth, err)
	line, err = script.Line(p, n)
	put(line, err)
	q, err = script.Without(p, n)
	put(q, err)
	return all
}

func TestAllIntsAndLists(t *testing.T) { // Z1, Z6: every call returns
	ints := []int{math.MinInt, -1, 0, 1, 2, 5, 9, 10, 999, 1000, math.MaxInt}
	for _, a := range ints {
		for _, b := range ints {
			e := api.Expr{Op: a, N: b, Args: []api.Expr{{Op: b, N: a}}}
			s := api.Step{Kind: a, Expr: e, Then: steps(api.Step{Kind: b}), Args: []string{""}}
			everything(api.Play{Procs: []api.Proc{{Body: steps(s)}}, Main: steps(s)}, e, "", b)
			everything(api.Play{Main: steps(send("a", number(b), "b", "x"))}, number(b), "", a)
			everything(api.Play{Main: steps(s)}, e, "", a)
		}
	}
	const most = 200_000
	everything(api.Play{Procs: make([]api.Proc, most)}, api.Expr{Op: api.OpAdd, Args: make([]api.Expr, most)}, "", 0)
	everything(api.Play{Main: make([]api.Step, most)}, nots(most, number(1)), "", 0)
	same(t, "many steps", script.CheckPlay(api.Play{Main: many(most, tell("a", "b", "l"))}), api.ErrLarge)
	same(t, "deep steps", script.CheckPlay(api.Play{Main: choices(most, tell("a", "b", "l"))}), api.ErrLarge)
	same(t, "many Args", script.CheckPlay(api.Play{Main: steps(call("p", make([]string, most)...))}), api.ErrLarge)
}

func TestTextsOfOneWord(t *testing.T) { // Z1, P1.5: every call returns, however deep the text is
	for _, s := range append(someWords, "!a", "(a", "a+", "a?", "a?b:", "a.x:=1;", "if a.1{", "if a.1{}else{", "p(a);", "proc p(a){}", "#", "\n", "\xff", "a,", "!(") {
		for _, before := range []string{"", "main{", "main{a.x:=", "proc p("} {
			whole := before + strings.Repeat(s, (api.MaxText-len(before))/len(s))
			_, _, err := script.Read(whole)
			if err == api.ErrArg || err == api.ErrName {
				t.Errorf("%q: error %d", before+s, err)
			}
			e, _, err := script.ReadExpr(whole)
			same(t, before+s, e.Op == 0, err != api.OK)
		}
	}
	half := api.MaxText/2 - 1
	e, line, err := script.ReadExpr(strings.Repeat("(", half) + "x" + strings.Repeat(")", half))
	same(t, "parentheses", []any{e, line, err}, []any{variable("x"), 0, api.OK})
	e, line, err = script.ReadExpr(strings.Repeat("(", half) + "x" + strings.Repeat(")", half-1) + "\n")
	same(t, "one too few", []any{e, line, err}, []any{api.Expr{}, 1, api.ErrSyntax})
	e, line, err = script.ReadExpr(strings.Repeat("!", api.MaxText-1) + "x")
	same(t, "too deep", []any{e, line, err}, []any{api.Expr{}, 0, api.ErrLarge})
	const deep = 10_000
	p, line, err := script.Read("main{" + strings.Repeat("if a.0{", deep) + strings.Repeat("}else{}", deep) + "}")
	same(t, "too deep", []any{p, line, err}, []any{api.Play{}, 0, api.ErrLarge})
}

func TestManyGoroutines(t *testing.T) { // Z1, Z7
	p, e := read(t, shop), wide(t, 50_000)
	want := everything(p, e, shop, 5)
	var wait sync.WaitGroup
	for range 8 {
		wait.Go(func() {
			for range 5 {
				if got := everything(p, e, shop, 5); !reflect.DeepEqual(got, want) {
					t.Error("another result for the same arguments")
				}
			}
		})
	}
	wait.Wait()
}

// roomy makes all lists of a play have more memory than they need, filled with what must neither be read nor changed.
func roomy(p api.Play) api.Play {
	proc := api.Proc{Key: "NO"}
	p.Procs = append(p.Procs, proc, proc)[:len(p.Procs)]
	for i, q := range p.Procs {
		p.Procs[i].Params = append(q.Params, "NO", "NO")[:len(q.Params)]
		p.Procs[i].Body = roomySteps(q.Body)
	}
	p.Main = roomySteps(p.Main)
	return p
}

func roomySteps(l []api.Step) []api.Step {
	no := api.Step{Kind: 77, Role: "NO"}
	for i, s := range l {
		l[i].Expr = roomyExpr(s.Expr)
		l[i].Args = append(s.Args, "NO", "NO")[:len(s.Args)]
		if s.Kind == api.StepIf {
			l[i].Then, l[i].Else = roomySteps(s.Then), roomySteps(s.Else)
		}
	}
	return append(l, no, no)[:len(l)]
}

func roomyExpr(e api.Expr) api.Expr {
	for i, a := range e.Args {
		e.Args[i] = roomyExpr(a)
	}
	no := api.Expr{Op: 77}
	e.Args = append(e.Args, no, no)[:len(e.Args)]
	return e
}

// whole is all that the lists of a value have in memory, also behind their lengths.
func whole(v reflect.Value, visit func(list reflect.Value)) {
	switch v.Kind() {
	case reflect.Slice:
		visit(v)
		v = v.Slice(0, v.Cap())
		for i := range v.Len() {
			whole(v.Index(i), visit)
		}
	case reflect.Struct:
		for i := range v.NumField() {
			whole(v.Field(i), visit)
		}
	}
}

// snapshot is a copy of all that whole finds.
func snapshot(x any) []any {
	var l []any
	whole(reflect.ValueOf(x), func(list reflect.Value) {
		all := list.Slice(0, list.Cap())
		for i := range all.Len() {
			switch y := all.Index(i).Interface().(type) {
			case api.Expr:
				l = append(l, []any{y.Op, y.N, y.Name, len(y.Args)})
			case api.Step:
				l = append(l, []any{y.Kind, y.Role, y.To, y.Var, y.Label, y.Proc, len(y.Then), len(y.Else), len(y.Args)})
			case api.Proc:
				l = append(l, []any{y.Key, len(y.Params), len(y.Body)})
			default:
				l = append(l, y)
			}
		}
	})
	return l
}

func TestArgumentsStay(t *testing.T) { // Z2
	d := dice{7}
	for range 200 {
		p, e := d.play(), d.expr(5)
		steps, _, _ := script.Count(p)
		n := d.roll(steps + 1)
		want := everything(p, e, "", n)
		p, e = roomy(p), roomyExpr(e)
		before := append(snapshot(p), snapshot(e)...)
		got := everything(p, e, "", n)
		if !reflect.DeepEqual(before, append(snapshot(p), snapshot(e)...)) {
			t.Fatal("an argument is modified")
		}
		// A list of a result can have been copied with its room, but not with another text.
		same(t, "what is behind the length", texts(t, got), texts(t, want))
	}
}

// texts replaces plays by their texts, because empty and nil lists are the same.
func texts(t *testing.T, l []any) []any {
	for i, x := range l {
		switch y := x.(type) {
		case api.Play:
			l[i] = text(t, y)
		case []string:
			l[i] = strings.Join(y, " ")
		}
	}
	return l
}

// span is where a list is in memory.
type span struct{ from, to uintptr }

func spans(x any) []span {
	var l []span
	whole(reflect.ValueOf(x), func(list reflect.Value) {
		if n := uintptr(list.Cap()) * list.Type().Elem().Size(); n > 0 {
			l = append(l, span{list.Pointer(), list.Pointer() + n})
		}
	})
	return l
}

func TestResultsAreNew(t *testing.T) { // Z2
	d := dice{9}
	for range 200 {
		p := d.play()
		s := text(t, p)
		steps, _, _ := script.Count(p)
		q, _ := script.Without(p, d.roll(max(steps, 1)))
		r, r2 := read(t, s), read(t, s)
		e := readExpr(t, exprText(t, d.expr(5)))
		a, _ := script.Roles(p)
		b, _ := script.Roles(p)
		l := spans([]any{}) // all of them live until the end
		for _, x := range []any{p, q, r, r2, e, a, b} {
			l = append(l, spans(x)...)
		}
		slices.SortFunc(l, func(x, y span) int { return int(x.from) - int(y.from) })
		for i := 1; i < len(l); i++ {
			if l[i].from < l[i-1].to {
				t.Fatalf("two lists share memory: %s", s)
			}
		}
		runtime.KeepAlive([]any{p, q, r, r2, e, a, b})
	}
}

func TestEmptyLists(t *testing.T) { // Z5
	p := read(t, "proc p(a) { if a.1 { } else { } } main { if a.x { } else { } }")
	q := api.Play{Procs: slices.Clone(p.Procs), Main: []api.Step{choice("a", api.Expr{Op: api.OpVar, Name: "x", Args: []api.Expr{}}, []api.Step{}, []api.Step{})}}
	q.Main[0].Args = []string{}
	a, b := everything(p, variable("x"), "", 0), everything(q, q.Main[0].Expr, "", 0)
	same(t, "empty lists", texts(t, b), texts(t, a))
}

func TestMoments(t *testing.T) { // Z11: the last moment is of the last day
	same(t, "a day", api.DayLong, 24*60*60*1000)
	same(t, "the last day", []int{(api.End - 1) / api.DayLong, api.End / api.DayLong}, []int{api.MaxDay, api.MaxDay + 1})
}
