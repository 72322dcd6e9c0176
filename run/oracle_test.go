package run_test

import (
	"fmt"
	"maps"
	"slices"
	"strings"
	"testing"

	"promptbook/api"
	"promptbook/value"
)

// set is a set of variables.
type set map[api.Var]bool

func union(a, b set) set {
	out := maps.Clone(a)
	maps.Copy(out, b)
	return out
}

// teller does a run just as P4.2 tells it, with all sources at each moment as P4.5 tells them.
type teller struct {
	procs   map[string]api.Proc
	numbers map[*api.Step]int
	vars    map[api.Var]int
	sources map[api.Var]set // a variable that is not there has itself alone
	left    int             // of the fuel
	full    bool            // whether the fuel has not lasted
	done    []int
	events  []api.Event
	early   set // what has been read before it was set
	written set
	most    int // the greatest number of calls within one another
}

func tell(p api.Play, s []api.Store, fuel int) *teller {
	x := &teller{map[string]api.Proc{}, map[*api.Step]int{}, map[api.Var]int{}, map[api.Var]set{}, fuel, false, nil, nil, set{}, set{}, 0}
	x.number(p.Main)
	for _, q := range p.Procs {
		x.procs[q.Key] = q
		x.number(q.Body)
	}
	for _, one := range s {
		for _, v := range one.Vars {
			x.vars[api.Var{Role: one.Role, Name: v.Name}] = v.Value
		}
	}
	x.list(p.Main, map[string]string{"a": "a", "b": "b", "c": "c", "d": "d"}, set{}, 0)
	return x
}

func (x *teller) number(l []api.Step) {
	for i := range l {
		x.numbers[&l[i]] = len(x.numbers)
		x.number(l[i].Then)
		x.number(l[i].Else)
	}
}

// of are the sources of a variable at the moment.
func (x *teller) of(v api.Var) set {
	if l, ok := x.sources[v]; ok {
		return l
	}
	return set{v: true}
}

// read is the value of an expression, and its sources.
func (x *teller) read(e api.Expr, role string) (int, set) {
	var slots []api.Slot
	sources := set{}
	reads, _ := value.Vars(e)
	for _, name := range reads {
		v := api.Var{Role: role, Name: name}
		slots = append(slots, api.Slot{Name: name, Value: x.vars[v]})
		sources = union(sources, x.of(v))
		if !x.written[v] {
			x.early[v] = true
		}
	}
	n, err := value.Eval(e, slots)
	if err != api.OK {
		panic(fmt.Sprint(e, slots, err))
	}
	return n, sources
}

func (x *teller) put(v api.Var, n int, sources set) {
	x.vars[v] = n
	x.sources[v] = sources
	x.written[v] = true
}

// list does steps, in whose names roles stand for those of as.
func (x *teller) list(l []api.Step, as map[string]string, g set, depth int) {
	x.most = max(x.most, depth)
	for i := range l {
		if x.full || x.left == 0 {
			x.full = true
			return
		}
		x.left--
		x.done = append(x.done, x.numbers[&l[i]])
		x.step(l[i], as, g, depth)
	}
}

func (x *teller) step(s api.Step, as map[string]string, g set, depth int) {
	role, to := as[s.Role], as[s.To]
	happens := func(l ...api.Event) { x.events = append(x.events, l...) }
	switch s.Kind {
	case api.StepSend:
		n, from := x.read(s.Expr, role)
		happens(api.Event{Role: role, Kind: api.ActSend, With: to, Value: n}, api.Event{Role: to, Kind: api.ActTake, With: role, Name: s.Var, Value: n})
		x.put(api.Var{Role: to, Name: s.Var}, n, union(from, g))
	case api.StepTell:
		happens(api.Event{Role: role, Kind: api.ActTell, With: to, Name: s.Label}, api.Event{Role: to, Kind: api.ActOffer, With: role, Name: s.Label})
	case api.StepSet:
		n, from := x.read(s.Expr, role)
		happens(api.Event{Role: role, Kind: api.ActSet, Name: s.Var, Value: n})
		x.put(api.Var{Role: role, Name: s.Var}, n, union(from, g))
	case api.StepIf:
		n, from := x.read(s.Expr, role)
		branch, is := s.Else, 0
		if n != 0 {
			branch, is = s.Then, 1
		}
		happens(api.Event{Role: role, Kind: api.ActIf, Value: is})
		x.list(branch, as, union(g, from), depth)
		for v := range x.canSet(slices.Concat(s.Then, s.Else), as, map[string]bool{}) {
			x.sources[v] = union(x.of(v), from)
		}
	case api.StepCall:
		x.list(x.procs[s.Proc].Body, x.called(s, as), g, depth+1)
	}
}

func (x *teller) called(s api.Step, as map[string]string) map[string]string {
	out := map[string]string{}
	for i, param := range x.procs[s.Proc].Params {
		out[param] = as[s.Args[i]]
	}
	return out
}

// canSet is what a list can set; seen are the calls that are known already.
func (x *teller) canSet(l []api.Step, as map[string]string, seen map[string]bool) set {
	out := set{}
	for _, s := range l {
		switch s.Kind {
		case api.StepSend:
			out[api.Var{Role: as[s.To], Name: s.Var}] = true
		case api.StepSet:
			out[api.Var{Role: as[s.Role], Name: s.Var}] = true
		case api.StepIf:
			out = union(out, x.canSet(slices.Concat(s.Then, s.Else), as, seen))
		case api.StepCall:
			inner := x.called(s, as)
			if key := fmt.Sprint(s.Proc, inner); !seen[key] {
				seen[key] = true
				out = union(out, x.canSet(x.procs[s.Proc].Body, inner, seen))
			}
		}
	}
	return out
}

// sorted are variables by Role, then Name.
func sorted(s set) []api.Var {
	return slices.SortedFunc(maps.Keys(s), func(a, b api.Var) int {
		return strings.Compare(a.Role+"."+a.Name, b.Role+"."+b.Name)
	})
}

// stores are those at the end.
func (x *teller) stores() []api.Store {
	var l []string
	for v, n := range x.vars {
		if n != 0 {
			l = append(l, fmt.Sprintf("%s.%s=%d", v.Role, v.Name, n))
		}
	}
	slices.Sort(l) // all names of random plays have one letter
	return stores(strings.Join(l, " "))
}

// trial is a random run.
type trial struct {
	play  api.Play
	roles []string
	first []api.Store
	fuel  int
	told  *teller
	what  string
}

// trials are random runs; some do not come to their end.
func trials(t *testing.T, d *dice, n int, visit func(c trial)) {
	t.Helper()
	ended, deep := 0, 0
	for range n {
		c := trial{play: d.play(), fuel: d.roll(80)}
		c.roles = rolesOf(c.play)
		c.first = d.stores(c.roles)
		c.told = tell(c.play, c.first, c.fuel)
		c.what = fmt.Sprint(text(t, c.play), c.first, c.fuel)
		visit(c)
		if !c.told.full {
			ended++
			if c.told.most > 3 {
				deep++
			}
		}
	}
	if ended < n/3 || deep < n/200 {
		t.Errorf("of %d runs just %d come to their end, and just %d are deep", n, ended, deep)
	}
}

// rolesOf are those of the steps of Main, rising.
func rolesOf(p api.Play) []string {
	seen := map[string]bool{}
	var visit func(l []api.Step)
	visit = func(l []api.Step) {
		for _, s := range l {
			for _, role := range append([]string{s.Role, s.To}, s.Args...) {
				seen[role] = true
			}
			visit(s.Then)
			visit(s.Else)
		}
	}
	visit(p.Main)
	delete(seen, "")
	return slices.Sorted(maps.Keys(seen))
}
