package check_test

import (
	"fmt"

	"promptbook/api"
)

// dice gives always the same numbers, so that a failure can be seen again.
type dice struct{ state uint64 }

func (d *dice) roll(n int) int {
	d.state = d.state*6364136223846793005 + 1442695040888963407
	return int(d.state >> 33 % uint64(n))
}

func (d *dice) pick(l ...string) string {
	return l[d.roll(len(l))]
}

// some are n different ones of l.
func (d *dice) some(l []string, n int) []string {
	var out []string
	for len(out) < n {
		s := d.pick(l...)
		if !contains(out, s) {
			out = append(out, s)
		}
	}
	return out
}

func contains(l []string, s string) bool {
	for _, x := range l {
		if x == s {
			return true
		}
	}
	return false
}

func (d *dice) expr() api.Expr {
	name := api.Expr{Op: api.OpVar, Name: d.pick("v", "v", "w", "w", "z")}
	switch d.roll(3) {
	case 0:
		return number(d.roll(10))
	case 1:
		return name
	}
	return api.Expr{Op: api.OpAdd, Args: []api.Expr{name, d.expr()}}
}

// steps are for roles; they call each of the procedures that has not more Params than there are roles.
func (d *dice) steps(roles []string, procs []api.Proc, most, depth int) []api.Step {
	var l []api.Step
	for range d.roll(most + 1) {
		l = append(l, d.step(roles, procs, depth))
	}
	return l
}

func (d *dice) step(roles []string, procs []api.Proc, depth int) api.Step {
	switch k := d.roll(9); {
	case k == 0 && len(roles) > 1:
		two := d.some(roles, 2)
		return api.Step{Kind: api.StepSend, Role: two[0], To: two[1], Var: d.pick("v", "w"), Expr: d.expr()}
	case k == 1 && len(roles) > 1:
		two := d.some(roles, 2)
		return api.Step{Kind: api.StepTell, Role: two[0], To: two[1], Label: d.pick("l", "m")}
	case k < 5 && depth > 1:
		return api.Step{Kind: api.StepIf, Role: d.pick(roles...), Expr: d.expr(), Then: d.steps(roles, procs, 2, depth-1), Else: d.steps(roles, procs, 2, depth-1)}
	case k < 7 && len(procs) > 0:
		q := procs[d.roll(len(procs))]
		if len(q.Params) <= len(roles) {
			return api.Step{Kind: api.StepCall, Proc: q.Key, Args: d.some(roles, len(q.Params))}
		}
	}
	return api.Step{Kind: api.StepSet, Role: d.pick(roles...), Var: d.pick("v", "w"), Expr: d.expr()}
}

// play is well formed and small, so that all ways through it can be tried.
func (d *dice) play() api.Play {
	var p api.Play
	for i := range d.roll(4) {
		p.Procs = append(p.Procs, api.Proc{Key: fmt.Sprint("p", i), Params: []string{"x", "y", "z"}[:1+d.roll(3)]})
	}
	for i, q := range p.Procs {
		p.Procs[i].Body = d.steps(q.Params, p.Procs, 3, 2)
		p.Procs[i].Params = append([]string{}, q.Params...)
	}
	p.Main = d.steps([]string{"a", "b", "c"}, p.Procs, 6, 2)
	return p
}
