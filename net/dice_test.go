package net_test

import (
	"fmt"
	"slices"

	"promptbook/api"
	"promptbook/project"
)

// dice gives always the same numbers, so that a failure can be seen again.
type dice struct{ state uint64 }

func (d *dice) roll(n int) int {
	d.state = d.state*6364136223846793005 + 1442695040888963407
	return int(d.state >> 33 % uint64(n))
}

func (d *dice) pick(l ...string) string {
	return l[d.roll(len(l))]
}

// some are n different ones of l.
func (d *dice) some(l []string, n int) []string {
	var out []string
	for len(out) < n {
		if s := d.pick(l...); !slices.Contains(out, s) {
			out = append(out, s)
		}
	}
	return out
}

func number(n int) api.Expr {
	return api.Expr{Op: api.OpNumber, N: n}
}

func name(s string) api.Expr {
	return api.Expr{Op: api.OpVar, Name: s}
}

func (d *dice) variable() string {
	return d.pick("u", "v", "v")
}

func (d *dice) expr() api.Expr {
	switch d.roll(5) {
	case 0:
		return number(d.roll(3))
	case 1:
		return api.Expr{Op: api.OpSub, Args: []api.Expr{number(1), name(d.variable())}}
	case 2:
		return api.Expr{Op: api.OpAdd, Args: []api.Expr{name(d.variable()), number(1 + d.roll(2)*997)}}
	}
	return name(d.variable())
}

// roller makes acts of a role among others.
type roller struct {
	*dice
	own    string
	others []string
	locals []api.Local
}

func (r roller) acts(most, depth int) []api.Act {
	var l []api.Act
	for range r.roll(most + 1) {
		l = append(l, r.act(depth))
	}
	return l
}

func (r roller) act(depth int) api.Act {
	switch k := r.roll(12); {
	case k == 0 && depth > 1:
		return api.Act{Kind: api.ActIf, Expr: r.expr(), Then: r.acts(2, depth-1), Else: r.acts(2, depth-1)}
	case k < 3 && depth > 1 && len(r.others) > 0:
		return r.offer(depth)
	case k < 5 && len(r.locals) > 0:
		l := r.locals[r.roll(len(r.locals))]
		if len(l.Params)-1 <= len(r.others) {
			args := slices.Insert(r.some(r.others, len(l.Params)-1), l.Index, r.own)
			return api.Act{Kind: api.ActCall, Proc: l.Key, Index: l.Index, Args: args}
		}
	case k < 11 && len(r.others) > 0:
		return r.talk()
	}
	return api.Act{Kind: api.ActSet, Var: r.variable(), Expr: r.expr()}
}

func (r roller) talk() api.Act {
	other := r.pick(r.others...)
	switch r.roll(5) {
	case 0, 1:
		return api.Act{Kind: api.ActSend, With: other, Expr: r.expr()}
	case 2:
		return api.Act{Kind: api.ActTell, With: other, Label: r.pick("l", "m")}
	}
	return api.Act{Kind: api.ActTake, With: other, Var: r.variable()}
}

func (r roller) offer(depth int) api.Act {
	a := api.Act{Kind: api.ActOffer, With: r.pick(r.others...)}
	labels := r.some([]string{"l", "m", "n"}, 1+r.roll(3))
	slices.Sort(labels)
	for _, label := range labels {
		a.Offers = append(a.Offers, api.Offer{Label: label, Body: r.acts(2, depth-1)})
	}
	return a
}

// part is that of a role. The names of Params are those of roles, too, so that none may be taken for the other. Locals are often much the same.
func (d *dice) part(own string, others []string) api.Part {
	p := api.Part{Role: own}
	for i := range d.roll(3) {
		l := api.Local{Key: fmt.Sprint("p", i), Params: d.some([]string{"a", "b", "c", "x"}, 1+d.roll(3))}
		l.Index = d.roll(len(l.Params))
		p.Locals = append(p.Locals, l)
	}
	for i, l := range p.Locals {
		others := slices.Delete(slices.Clone(l.Params), l.Index, l.Index+1)
		p.Locals[i].Body = roller{d, l.Params[l.Index], others, p.Locals}.acts(3, 3)
	}
	if n := len(p.Locals); n > 1 && d.roll(3) == 0 {
		twin := p.Locals[0]
		twin.Key = "q"
		p.Locals = append(p.Locals, twin)
	}
	p.Main = roller{d, own, others, p.Locals}.acts(4, 3)
	return p
}

var roles = []string{"a", "b", "c", "d"}

// network is one of parts that know little of one another.
func (d *dice) network() []api.Part {
	var p []api.Part
	all := roles[:2+d.roll(2)]
	for _, own := range all {
		others := slices.DeleteFunc(slices.Clone(roles[:len(all)+d.roll(5)/4]), func(s string) bool { return s == own })
		p = append(p, d.part(own, others))
	}
	return p
}

// stepper makes steps for some roles.
type stepper struct {
	*dice
	roles []string
	procs []api.Proc
}

func (r stepper) steps(most, depth int) []api.Step {
	var l []api.Step
	for range r.roll(most + 1) {
		l = append(l, r.step(depth))
	}
	return l
}

func (r stepper) step(depth int) api.Step {
	switch k := r.roll(12); {
	case k < 5 && len(r.roles) > 1:
		two := r.some(r.roles, 2)
		return api.Step{Kind: api.StepSend, Role: two[0], To: two[1], Var: r.variable(), Expr: r.expr()}
	case k < 7 && depth > 1:
		return api.Step{Kind: api.StepIf, Role: r.pick(r.roles...), Expr: r.expr(), Then: r.steps(3, depth-1), Else: r.steps(3, depth-1)}
	case k < 9 && len(r.procs) > 0:
		q := r.procs[r.roll(len(r.procs))]
		if len(q.Params) <= len(r.roles) {
			return api.Step{Kind: api.StepCall, Proc: q.Key, Args: r.some(r.roles, len(q.Params))}
		}
	case k == 9 && len(r.roles) > 1:
		two := r.some(r.roles, 2)
		return api.Step{Kind: api.StepTell, Role: two[0], To: two[1], Label: r.pick("l", "m")}
	}
	return api.Step{Kind: api.StepSet, Role: r.pick(r.roles...), Var: r.variable(), Expr: r.expr()}
}

// play is one that can be projected.
func (d *dice) play() api.Play {
	for {
		var p api.Play
		for i := range d.roll(3) {
			p.Procs = append(p.Procs, api.Proc{Key: fmt.Sprint("p", i), Params: d.some([]string{"a", "b", "c", "x"}, 1+d.roll(3))})
		}
		for i, q := range p.Procs {
			p.Procs[i].Body = stepper{d, q.Params, p.Procs}.steps(3, 3)
		}
		p.Main = stepper{d, roles[:2+d.roll(3)], p.Procs}.steps(5, 3)
		if q, _, err := project.Amend(p); err == api.OK && len(p.Main) > 0 {
			return q
		}
	}
}

// store is some of the variables of roles.
func (d *dice) stores(p []api.Part) []api.Store {
	var l []api.Store
	for _, one := range p {
		s := api.Store{Role: one.Role}
		for _, name := range []string{"t", "u", "v"} {
			if n := d.roll(4); n > 1 {
				s.Vars = append(s.Vars, api.Slot{Name: name, Value: n - 1})
			}
		}
		if len(s.Vars) > 0 {
			l = append(l, s)
		}
	}
	return l
}

// changed are parts of which some acts are left out, or stand elsewhere.
func (d *dice) changed(l []api.Part) []api.Part {
	l = slices.Clone(l)
	for range 1 + d.roll(3) {
		p := &l[d.roll(len(l))]
		p.Main = slices.Clone(p.Main)
		n := len(p.Main)
		switch k := d.roll(3); {
		case n == 0:
		case k == 0:
			i := d.roll(n)
			p.Main = slices.Delete(p.Main, i, i+1)
		default:
			i, j := d.roll(n), d.roll(n)
			p.Main[i], p.Main[j] = p.Main[j], p.Main[i]
		}
	}
	return l
}

// deals are acts of two roles with one another that fit, in the same order.
func (d *dice) deals(most int) (one, other []api.Act) {
	for range 1 + d.roll(most) {
		from, to := roles[0], roles[1]
		put, take := api.Act{Kind: api.ActSend, With: to, Expr: d.expr()}, api.Act{Kind: api.ActTake, With: from, Var: d.variable()}
		if d.roll(2) == 0 {
			put = api.Act{Kind: api.ActTell, With: to, Label: d.pick("l", "m")}
			take = api.Act{Kind: api.ActOffer, With: from, Offers: []api.Offer{{Label: "l"}, {Label: "m", Body: roller{dice: d}.acts(1, 1)}}}
		}
		if d.roll(2) == 0 {
			put.With, take.With = from, to
			put, take = take, put
		}
		one, other = append(one, put), append(other, take)
	}
	return one, other
}

// loops are two parts that do the same again and again, and keep little.
func (d *dice) loops() []api.Part {
	var p []api.Part
	a, b := d.deals(3)
	first, second := d.deals(1)
	for i, body := range [][]api.Act{a, b} {
		if d.roll(4) == 0 {
			k := d.roll(len(body))
			body[0], body[k] = body[k], body[0]
		}
		for _, v := range []string{"u", "v"}[d.roll(3):] {
			body = append(body, api.Act{Kind: api.ActSet, Var: v, Expr: number(d.roll(2))})
		}
		again := api.Act{Kind: api.ActCall, Proc: "p", Index: i, Args: roles[:2]}
		l := api.Local{Key: "p", Index: i, Params: roles[:2], Body: append(body, again)}
		twin := l
		twin.Key = "q"
		again.Proc = d.pick("p", "q")
		main := [][]api.Act{first, second}[i]
		p = append(p, api.Part{Role: roles[i], Locals: []api.Local{l, twin}, Main: append(main, again)})
	}
	return p
}

// company is any network, with stores.
func (d *dice) company() ([]api.Part, []api.Store) {
	var p []api.Part
	switch d.roll(4) {
	case 0:
		p = d.network()
	case 1:
		p = d.loops()
	case 2:
		p, _ = project.All(d.play())
	default:
		p, _ = project.All(d.play())
		p = d.changed(p)
	}
	return p, d.stores(p)
}
