package project_test

import (
	"fmt"
	"slices"

	"promptbook/api"
)

// dice gives always the same numbers, so that a failure can be seen again.
type dice struct{ state uint64 }

func (d *dice) roll(n int) int {
	d.state = d.state*6364136223846793005 + 1442695040888963407
	return int(d.state >> 33 % uint64(n))
}

func (d *dice) pick(l ...string) string {
	return l[d.roll(len(l))]
}

// some are n different ones of l.
func (d *dice) some(l []string, n int) []string {
	var out []string
	for len(out) < n {
		if s := d.pick(l...); !slices.Contains(out, s) {
			out = append(out, s)
		}
	}
	return out
}

func (d *dice) expr() api.Expr {
	switch d.roll(4) {
	case 0:
		return number(d.roll(2))
	case 1:
		return api.Expr{Op: api.OpAdd, Args: []api.Expr{name("v"), number(d.roll(2))}}
	}
	return name("v")
}

// roller makes steps for some roles.
type roller struct {
	*dice
	roles []string
	procs []api.Proc
	tells int // how many of ten steps are selections
}

func (r roller) steps(most, depth int) []api.Step {
	var l []api.Step
	for range r.roll(most + 1) {
		l = append(l, r.step(depth))
	}
	return l
}

// choice has branches that are often much the same.
func (r roller) choice(depth int) api.Step {
	s := api.Step{Kind: api.StepIf, Role: r.pick(r.roles...), Expr: r.expr(), Then: r.steps(3, depth-1)}
	s.Else = r.steps(3, depth-1)
	if r.roll(2) == 0 {
		s.Else = slices.Clone(s.Then)
		if n := len(s.Else); n > 0 && r.roll(3) > 0 {
			s.Else[r.roll(n)] = r.step(depth - 1)
		}
	}
	return s
}

func (r roller) step(depth int) api.Step {
	if len(r.roles) > 1 && r.roll(10) < r.tells {
		two := r.some(r.roles, 2)
		return api.Step{Kind: api.StepTell, Role: two[0], To: two[1], Label: r.pick("yes", "no", "l")}
	}
	switch k := r.roll(9); {
	case k < 3 && len(r.roles) > 1:
		two := r.some(r.roles, 2)
		return api.Step{Kind: api.StepSend, Role: two[0], To: two[1], Var: "v", Expr: number(1)}
	case k < 7 && depth > 1:
		return r.choice(depth)
	case k == 7 && len(r.procs) > 0:
		q := r.procs[r.roll(len(r.procs))]
		if len(q.Params) <= len(r.roles) {
			return api.Step{Kind: api.StepCall, Proc: q.Key, Args: r.some(r.roles, len(q.Params))}
		}
	}
	return api.Step{Kind: api.StepSet, Role: r.pick(r.roles...), Var: "v", Expr: r.expr()}
}

// play is well formed. The names of Params are those of roles, too, so that none may be taken for the other.
func (d *dice) play() api.Play {
	var p api.Play
	for i := range d.roll(4) {
		p.Procs = append(p.Procs, api.Proc{Key: fmt.Sprint("p", i), Params: d.some([]string{"a", "b", "c", "x"}, 1+d.roll(3))})
	}
	tells := d.roll(6)
	for i, q := range p.Procs {
		p.Procs[i].Body = roller{d, q.Params, p.Procs, tells}.steps(3, 3)
	}
	p.Main = roller{d, []string{"a", "b", "c", "d"}[:2+d.roll(3)], p.Procs, tells}.steps(4, 4)
	return p
}
