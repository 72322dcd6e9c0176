package check_test

import (
	"fmt"
	"slices"
	"strings"
	"testing"

	"promptbook/api"
	"promptbook/check"
	"promptbook/script"
)

// place is a step with its number, and those of the steps within it.
type place struct {
	api.Step
	then, otherwise []int
}

// explorer tries the ways through a play one step after the other, as a run would do it with any values.
type explorer struct {
	places []place
	main   []int
	procs  map[string]api.Proc
	bodies map[string][]int
}

func newExplorer(p api.Play) *explorer {
	x := &explorer{procs: map[string]api.Proc{}, bodies: map[string][]int{}}
	x.main = x.number(p.Main)
	for _, q := range p.Procs {
		x.procs[q.Key] = q
		x.bodies[q.Key] = x.number(q.Body)
	}
	return x
}

func (x *explorer) number(l []api.Step) []int {
	var out []int
	for _, s := range l {
		n := len(x.places)
		out = append(out, n)
		x.places = append(x.places, place{Step: s})
		then := x.number(s.Then)
		otherwise := x.number(s.Else)
		x.places[n].then, x.places[n].otherwise = then, otherwise
	}
	return out
}

// frame is a list that is being done, and for which roles those stand that it names (themselves in Main).
type frame struct {
	rest  []int
	stand map[string]string
}

func (f frame) role(name string) string {
	if s, ok := f.stand[name]; ok {
		return s
	}
	return name
}

// moment is how far one has come, and which variables have been set.
type moment struct {
	stack []frame // the innermost one last; none is empty
	set   map[string]bool
}

// with is the moment after the first step of the innermost list, when more is to be done first.
func (m moment) with(more []int, stand map[string]string) moment {
	last := len(m.stack) - 1
	f := m.stack[last]
	out := moment{stack: slices.Clone(m.stack[:last]), set: m.set}
	if len(f.rest) > 1 {
		out.stack = append(out.stack, frame{f.rest[1:], f.stand})
	}
	if len(more) > 0 {
		out.stack = append(out.stack, frame{more, stand})
	}
	return out
}

// next are the moments after the next step, and what is seen of it: nothing of a call.
func (x *explorer) next(m moment) ([]moment, []string) {
	f := m.stack[len(m.stack)-1]
	s := x.places[f.rest[0]]
	role, to := f.role(s.Role), f.role(s.To)
	what := fmt.Sprint(role, s.Kind, to, s.Var, s.Label, s.Expr)
	after := m.with(nil, nil)
	switch s.Kind {
	case api.StepSend:
		return []moment{after.and(to + "." + s.Var)}, []string{what}
	case api.StepSet:
		return []moment{after.and(role + "." + s.Var)}, []string{what}
	case api.StepIf:
		return []moment{m.with(s.then, f.stand), m.with(s.otherwise, f.stand)}, []string{what + "yes", what + "no"}
	case api.StepCall:
		stand := map[string]string{}
		for i, param := range x.procs[s.Proc].Params {
			stand[param] = f.role(s.Args[i])
		}
		return []moment{m.with(x.bodies[s.Proc], stand)}, []string{""}
	}
	return []moment{after}, []string{what}
}

// and is the moment when another variable is set.
func (m moment) and(name string) moment {
	set := map[string]bool{name: true}
	for s := range m.set {
		set[s] = true
	}
	return moment{m.stack, set}
}

// found is what can be found on all ways.
type found struct {
	ends    bool
	reached map[int]bool
	called  map[string]bool
	early   map[api.Early]bool
}

// explore looks at all moments to which one can come from the beginning of a list. In plays as small as these nothing new is found with more than 7 lists within one another.
func (x *explorer) explore(l []int) found {
	const deepest = 7
	f := found{false, map[int]bool{}, map[string]bool{}, map[api.Early]bool{}}
	seen := map[string]bool{}
	var todo []moment
	add := func(m moment) {
		if len(m.stack) == 0 {
			f.ends = true
		} else if key := fmt.Sprint(m); len(m.stack) <= deepest && !seen[key] {
			seen[key] = true
			todo = append(todo, m)
		}
	}
	add(start(l))
	for len(todo) > 0 {
		m := todo[0]
		todo = todo[1:]
		x.note(m, f)
		after, _ := x.next(m)
		for _, a := range after {
			add(a)
		}
	}
	return f
}

func start(l []int) moment {
	if len(l) == 0 {
		return moment{}
	}
	return moment{stack: []frame{{rest: l}}}
}

// note keeps what is seen of the next step.
func (x *explorer) note(m moment, f found) {
	top := m.stack[len(m.stack)-1]
	n := top.rest[0]
	s := x.places[n]
	f.reached[n] = true
	if s.Kind == api.StepCall {
		f.called[s.Proc] = true
	}
	for _, name := range named(s.Expr) {
		if !m.set[top.role(s.Role)+"."+name] {
			f.early[api.Early{Step: n, Role: s.Role, Name: name}] = true
		}
	}
}

func named(e api.Expr) []string {
	var l []string
	if e.Op == api.OpVar {
		l = append(l, e.Name)
	}
	for _, a := range e.Args {
		l = append(l, named(a)...)
	}
	return l
}

// traces are all that can be seen of the first few steps, calls not counted; a `.` stands at the end of Main.
func (x *explorer) traces(length int) []string {
	type run struct {
		m     moment
		trace string
		steps int
	}
	seen := map[string]bool{}
	out := map[string]bool{}
	todo := []run{{start(x.main), "", 0}}
	for len(todo) > 0 {
		r := todo[0]
		todo = todo[1:]
		out[r.trace] = true
		if len(r.m.stack) == 0 {
			out[r.trace+"."] = true
			continue
		}
		r.m.set = nil
		key := fmt.Sprint(r)
		if len(r.m.stack) > 20 || seen[key] {
			continue
		}
		seen[key] = true
		after, what := x.next(r.m)
		for i, a := range after {
			if what[i] == "" {
				todo = append(todo, run{a, r.trace, r.steps})
			} else if r.steps < length {
				todo = append(todo, run{a, r.trace + "; " + what[i], r.steps + 1})
			}
		}
	}
	var l []string
	for s := range out {
		l = append(l, s)
	}
	slices.Sort(l)
	return l
}

// plays calls test for many small plays.
func plays(t *testing.T, test func(p api.Play, x *explorer)) {
	d := dice{3}
	some := 0
	for range 1500 {
		p := d.play()
		if err := check.Check(p); err != api.OK {
			t.Fatalf("error %d: %s", err, text(t, p))
		}
		x := newExplorer(p)
		if len(x.places) > 14 {
			continue
		}
		some++
		test(p, x)
		if t.Failed() {
			t.Fatal(text(t, p))
		}
	}
	if some < 500 {
		t.Error("too few plays:", some)
	}
}

func TestAllWays(t *testing.T) { // P2.2
	plays(t, func(p api.Play, x *explorer) {
		f := x.explore(x.main)
		var endless, called []string
		for _, q := range p.Procs {
			if !x.explore(x.bodies[q.Key]).ends {
				endless = append(endless, q.Key)
			}
			if f.called[q.Key] {
				called = append(called, q.Key)
			}
		}
		var unreached []int
		for n := range x.places {
			if !f.reached[n] {
				unreached = append(unreached, n)
			}
		}
		keys, ends, err := check.Endless(p)
		same(t, "Endless", []any{keys, ends, err}, []any{endless, f.ends, api.OK})
		numbers, err := check.Unreached(p)
		same(t, "Unreached", []any{numbers, err}, []any{unreached, api.OK})
		keys, err = check.Called(p)
		same(t, "Called", []any{keys, err}, []any{called, api.OK})
	})
}

func TestEarlyOnAllWays(t *testing.T) { // P2.4
	plays(t, func(p api.Play, x *explorer) {
		f := x.explore(x.main)
		var want []api.Early
		for e := range f.early {
			want = append(want, e)
		}
		slices.SortFunc(want, func(a, b api.Early) int {
			if a.Step != b.Step {
				return a.Step - b.Step
			}
			return strings.Compare(a.Name, b.Name)
		})
		early, err := check.Early(p)
		same(t, "Early", []any{early, err}, []any{want, api.OK})
	})
}

func TestPartakersAreInSteps(t *testing.T) { // P2.3
	plays(t, func(p api.Play, x *explorer) {
		want := [][]int{}
		for _, q := range p.Procs {
			var l []int
			for i := range q.Params {
				if x.partakes(q.Key, i, map[string]bool{}) {
					l = append(l, i)
				}
			}
			want = append(want, l)
		}
		got, err := check.Partakers(p)
		same(t, "Partakers", []any{got, err}, []any{want, api.OK})
	})
}

// partakes looks for a step with the role, from call to call, each one once.
func (x *explorer) partakes(key string, i int, seen map[string]bool) bool {
	mark := fmt.Sprint(key, i)
	if seen[mark] {
		return false
	}
	seen[mark] = true
	role := x.procs[key].Params[i]
	for _, n := range x.inside(x.bodies[key]) {
		s := x.places[n]
		if s.Role == role || s.To == role {
			return true
		}
		if k := slices.Index(s.Args, role); k >= 0 && x.partakes(s.Proc, k, seen) {
			return true
		}
	}
	return false
}

// inside are the numbers of a list's steps and of those within them.
func (x *explorer) inside(l []int) []int {
	var out []int
	for _, n := range l {
		out = append(out, n)
		out = append(out, x.inside(x.places[n].then)...)
		out = append(out, x.inside(x.places[n].otherwise)...)
	}
	return out
}

// leads goes from call to call.
func (x *explorer) leads(from, to string, seen map[string]bool) bool {
	for _, n := range x.inside(x.bodies[from]) {
		next := x.places[n].Proc
		if next == "" || seen[next] {
			continue
		}
		seen[next] = true
		if next == to || x.leads(next, to, seen) {
			return true
		}
	}
	return false
}

func (x *explorer) share(a, b string) bool {
	return x.leads(a, b, map[string]bool{}) && x.leads(b, a, map[string]bool{})
}

// notLast are the numbers of those steps behind which there is another one in their list, or in one in which it lies.
func (x *explorer) notLast(l []int) []int {
	var out []int
	for i, n := range l {
		if i < len(l)-1 {
			out = append(out, x.inside([]int{n})...)
		} else {
			out = append(out, x.notLast(x.places[n].then)...)
			out = append(out, x.notLast(x.places[n].otherwise)...)
		}
	}
	return out
}

func TestRingsAreThereAndBack(t *testing.T) { // P2.5
	plays(t, func(p api.Play, x *explorer) {
		var rings [][]string
		var deep []int
		for i, q := range p.Procs {
			var ring []string
			for k, r := range p.Procs {
				if x.share(q.Key, r.Key) {
					if k < i {
						ring = nil
						break
					}
					ring = append(ring, r.Key)
				}
			}
			if ring != nil {
				rings = append(rings, ring)
			}
			for _, n := range x.notLast(x.bodies[q.Key]) {
				if s := x.places[n]; s.Kind == api.StepCall && x.share(q.Key, s.Proc) {
					deep = append(deep, n)
				}
			}
		}
		got, err := check.Rings(p)
		same(t, "Rings", []any{got, err}, []any{rings, api.OK})
		numbers, err := check.Deep(p)
		same(t, "Deep", []any{numbers, err}, []any{deep, api.OK})
	})
}

func TestTrimmedDoesTheSame(t *testing.T) { // P2.6
	plays(t, func(p api.Play, x *explorer) {
		f := x.explore(x.main)
		q, err := check.Trimmed(p)
		same(t, "Trimmed", []any{err, check.Check(q)}, []any{api.OK, api.OK})
		same(t, "traces", newExplorer(q).traces(4), x.traces(4))
		steps, _ := check.Steps(q)
		same(t, "steps that are left", steps, len(f.reached))
		same(t, "procedures that are left", len(q.Procs), len(f.called))
		unreached, _ := check.Unreached(q)
		same(t, "Unreached", unreached, []int{})
		again, _ := check.Trimmed(q)
		same(t, "trimmed twice", text(t, again), text(t, q))
	})
}

func TestInlinedDoesTheSame(t *testing.T) { // P2.6
	plays(t, func(p api.Play, x *explorer) {
		q, err := check.Inlined(p)
		same(t, "Inlined", []any{err, check.Check(q)}, []any{api.OK, api.OK})
		y := newExplorer(q)
		same(t, "traces", y.traces(4), x.traces(4))
		var keys []string
		for _, r := range p.Procs {
			if x.share(r.Key, r.Key) {
				keys = append(keys, r.Key)
				same(t, "body of "+r.Key, len(y.inside(y.bodies[r.Key])), x.size(x.bodies[r.Key]))
			}
		}
		same(t, "body of Main", len(y.inside(y.main)), x.size(x.main))
		for i, r := range q.Procs {
			same(t, "procedure", r.Key, keys[i])
		}
		same(t, "procedures", len(q.Procs), len(keys))
		again, _ := check.Inlined(q)
		same(t, "inlined twice", text(t, again), text(t, q))
	})
}

// size is how many steps a list has when calls are replaced.
func (x *explorer) size(l []int) int {
	sum := 0
	for _, n := range x.inside(l) {
		if s := x.places[n]; s.Kind == api.StepCall && !x.share(s.Proc, s.Proc) {
			sum += x.size(x.bodies[s.Proc])
		} else {
			sum++
		}
	}
	return sum
}

func TestRenamedBackAgain(t *testing.T) { // P2.6
	plays(t, func(p api.Play, x *explorer) {
		roles, _ := script.Roles(p)
		turn := map[string]string{"a": "b", "b": "d", "c": "a"}
		var there, home []api.Pair
		for _, r := range roles {
			there = append(there, api.Pair{Name: r, Value: turn[r]})
			home = append(home, api.Pair{Name: turn[r], Value: r})
		}
		q, err := check.Renamed(p, there)
		same(t, "Renamed", []any{err, check.Check(q)}, []any{api.OK, api.OK})
		same(t, "procedures", q.Procs, p.Procs)
		for i, n := range x.inside(x.main) {
			s, _, _ := check.Step(q, i)
			was := x.places[n]
			for k, a := range was.Args {
				same(t, "one of Args", s.Args[k], turn[a])
			}
			same(t, "roles", []string{s.Role, s.To}, []string{turn[was.Role], turn[was.To]})
		}
		again, _ := check.Renamed(q, home)
		same(t, "there and back", text(t, again), text(t, p))
	})
}
