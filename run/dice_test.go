package run_test

import (
	"fmt"
	"slices"

	"promptbook/api"
)

// dice gives always the same numbers, so that a failure can be seen again.
type dice struct{ state uint64 }

func (d *dice) roll(n int) int {
	d.state = d.state*6364136223846793005 + 1442695040888963407
	return int(d.state >> 33 % uint64(n))
}

func (d *dice) pick(l ...string) string {
	return l[d.roll(len(l))]
}

// some are n different ones of l.
func (d *dice) some(l []string, n int) []string {
	var out []string
	for len(out) < n {
		if s := d.pick(l...); !slices.Contains(out, s) {
			out = append(out, s)
		}
	}
	return out
}

// names are those of the variables of random plays.
var names = []string{"u", "v", "w"}

func (d *dice) expr(depth int) api.Expr {
	if depth <= 1 || d.roll(3) == 0 {
		if d.roll(3) == 0 {
			return number([]int{0, 0, 1, 2, 3, 999}[d.roll(6)])
		}
		return api.Expr{Op: api.OpVar, Name: d.pick(names...)}
	}
	e := api.Expr{Op: api.OpAdd + d.roll(7)}
	for range map[int]int{api.OpNot: 1, api.OpWhen: 3}[e.Op] {
		e.Args = append(e.Args, d.expr(depth-1))
	}
	for e.Args == nil || len(e.Args) < 2 && e.Op != api.OpNot {
		e.Args = append(e.Args, d.expr(depth-1))
	}
	return e
}

func (d *dice) steps(roles []string, procs []api.Proc, most, depth int) []api.Step {
	var l []api.Step
	for range d.roll(most + 1) {
		l = append(l, d.step(roles, procs, depth))
	}
	return l
}

func (d *dice) step(roles []string, procs []api.Proc, depth int) api.Step {
	switch k := d.roll(10); {
	case k < 2 && len(roles) > 1:
		two := d.some(roles, 2)
		return api.Step{Kind: api.StepSend, Role: two[0], To: two[1], Var: d.pick(names...), Expr: d.expr(2)}
	case k == 2 && len(roles) > 1:
		two := d.some(roles, 2)
		return api.Step{Kind: api.StepTell, Role: two[0], To: two[1], Label: d.pick("l", "m")}
	case k < 6 && depth > 1:
		return api.Step{Kind: api.StepIf, Role: d.pick(roles...), Expr: d.expr(2), Then: d.steps(roles, procs, 3, depth-1), Else: d.steps(roles, procs, 3, depth-1)}
	case k < 8 && len(procs) > 0:
		q := procs[d.roll(len(procs))]
		if len(q.Params) <= len(roles) {
			return api.Step{Kind: api.StepCall, Proc: q.Key, Args: d.some(roles, len(q.Params))}
		}
	}
	return api.Step{Kind: api.StepSet, Role: d.pick(roles...), Var: d.pick(names...), Expr: d.expr(3)}
}

// loop calls its procedure again, as long as a variable that it counts down is not 0.
func (d *dice) loop(q api.Proc, procs []api.Proc) api.Step {
	role, name := d.pick(q.Params...), d.pick(names...)
	v := api.Expr{Op: api.OpVar, Name: name}
	less := api.Step{Kind: api.StepSet, Role: role, Var: name, Expr: api.Expr{Op: api.OpSub, Args: []api.Expr{v, number(1)}}}
	again := api.Step{Kind: api.StepCall, Proc: q.Key, Args: d.some(q.Params, len(q.Params))}
	then := slices.Concat([]api.Step{less}, d.steps(q.Params, nil, 2, 2), []api.Step{again}, d.steps(q.Params, nil, 2, 1))
	return api.Step{Kind: api.StepIf, Role: role, Expr: v, Then: then, Else: d.steps(q.Params, procs, 2, 1)}
}

// play is well formed. The names of Params are those of roles, too, so that none may be taken for the other.
func (d *dice) play() api.Play {
	var p api.Play
	for i := range d.roll(4) {
		p.Procs = append(p.Procs, api.Proc{Key: fmt.Sprint("p", i), Params: d.some([]string{"a", "b", "c", "x"}, 1+d.roll(3))})
	}
	for i, q := range p.Procs {
		p.Procs[i].Body = d.steps(q.Params, p.Procs, 4, 3)
		if d.roll(3) > 0 {
			p.Procs[i].Body = []api.Step{d.loop(q, p.Procs)}
		}
	}
	p.Main = d.steps([]string{"a", "b", "c"}, p.Procs, 7, 3)
	return p
}

// stores are of the roles.
func (d *dice) stores(roles []string) []api.Store {
	var s []api.Store
	for _, role := range roles {
		one := api.Store{Role: role}
		for _, name := range names {
			if d.roll(2) == 0 {
				one.Vars = append(one.Vars, api.Slot{Name: name, Value: []int{1, 1, 2, 3, 998, 999}[d.roll(6)]})
			}
		}
		if len(one.Vars) > 0 {
			s = append(s, one)
		}
	}
	return s
}

// event is a right one.
func (d *dice) event() api.Event {
	two := d.some([]string{"a", "b", "c"}, 2)
	n := []int{0, 1, 2, 10, 999}[d.roll(5)]
	return []api.Event{
		{Role: two[0], Kind: api.ActSend, With: two[1], Value: n},
		{Role: two[0], Kind: api.ActTake, With: two[1], Name: d.pick(names...), Value: n},
		{Role: two[0], Kind: api.ActTell, With: two[1], Name: d.pick("l", "m")},
		{Role: two[0], Kind: api.ActOffer, With: two[1], Name: d.pick("l", "m")},
		{Role: two[0], Kind: api.ActSet, Name: d.pick(names...), Value: n},
		{Role: two[0], Kind: api.ActIf, Value: d.roll(2)},
	}[d.roll(6)]
}

func (d *dice) events() []api.Event {
	var l []api.Event
	for range d.roll(8) {
		l = append(l, d.event())
	}
	return l
}
