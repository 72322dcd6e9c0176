package part_test

import (
	"fmt"
	"slices"

	"promptbook/api"
)

// dice gives always the same numbers, so that a failure can be seen again.
type dice struct{ state uint64 }

func (d *dice) roll(n int) int {
	d.state = d.state*6364136223846793005 + 1442695040888963407
	return int(d.state >> 33 % uint64(n))
}

func (d *dice) pick(l ...string) string {
	return l[d.roll(len(l))]
}

// some are n different ones of l.
func (d *dice) some(l []string, n int) []string {
	var out []string
	for len(out) < n {
		if s := d.pick(l...); !slices.Contains(out, s) {
			out = append(out, s)
		}
	}
	return out
}

func (d *dice) variable() string {
	return d.pick("u", "v", "w")
}

// expr is often one that can be made simpler.
func (d *dice) expr(depth int) api.Expr {
	two := func(op int) api.Expr {
		return api.Expr{Op: op, Args: []api.Expr{d.expr(depth - 1), d.expr(depth - 1)}}
	}
	switch k := d.roll(10); {
	case depth > 1 && k < 3:
		return two(api.OpAdd + d.roll(5))
	case depth > 1 && k == 3:
		return api.Expr{Op: api.OpNot, Args: []api.Expr{d.expr(depth - 1)}}
	case depth > 1 && k == 4:
		return api.Expr{Op: api.OpWhen, Args: []api.Expr{d.expr(depth - 1), d.expr(depth - 1), d.expr(depth - 1)}}
	case k < 6:
		return number(d.roll(3))
	}
	return name(d.variable())
}

// roller makes acts of a role among others.
type roller struct {
	*dice
	own    string
	others []string
	locals []api.Local
	quiet  bool // there are ActSets and calls only where they can be, and choices
}

func (r roller) acts(most, depth int) []api.Act {
	var l []api.Act
	for range r.roll(most + 1) {
		l = append(l, r.act(depth))
	}
	return l
}

func (r roller) act(depth int) api.Act {
	switch k := r.roll(12); {
	case k < 2 && depth > 1:
		return r.choice(depth)
	case k == 2 && depth > 1 && len(r.others) > 0:
		return r.offer(depth)
	case k < 5 && len(r.locals) > 0:
		l := r.locals[r.roll(len(r.locals))]
		if len(l.Params)-1 <= len(r.others) {
			return r.call(l)
		}
	case k < 8 && len(r.others) > 0 && (!r.quiet || k == 5):
		return r.talk()
	}
	return api.Act{Kind: api.ActSet, Var: r.variable(), Expr: r.expr(2)}
}

func (r roller) talk() api.Act {
	other := r.pick(r.others...)
	switch r.roll(3) {
	case 0:
		return api.Act{Kind: api.ActSend, With: other, Expr: r.expr(2)}
	case 1:
		return api.Act{Kind: api.ActTake, With: other, Var: r.variable()}
	}
	return api.Act{Kind: api.ActTell, With: other, Label: r.pick("l", "m", "n")}
}

// choice has branches that are often much the same.
func (r roller) choice(depth int) api.Act {
	a := api.Act{Kind: api.ActIf, Expr: r.expr(2), Then: r.acts(3, depth-1), Else: r.acts(3, depth-1)}
	if r.roll(2) == 0 {
		a.Else = slices.Clone(a.Then)
		if n := len(a.Else); n > 0 && r.roll(2) == 0 {
			a.Else[r.roll(n)] = r.act(depth - 1)
		}
	}
	return a
}

func (r roller) offer(depth int) api.Act {
	a := api.Act{Kind: api.ActOffer, With: r.pick(r.others...)}
	labels := r.some([]string{"l", "m", "n"}, 1+r.roll(3))
	slices.Sort(labels)
	for _, label := range labels {
		a.Offers = append(a.Offers, api.Offer{Label: label, Body: r.acts(2, depth-1)})
	}
	return a
}

func (r roller) call(l api.Local) api.Act {
	args := slices.Insert(r.some(r.others, len(l.Params)-1), l.Index, r.own)
	return api.Act{Kind: api.ActCall, Proc: l.Key, Index: l.Index, Args: args}
}

// part is right. The names of Params are those of roles, too, so that none may be taken for the other.
func (d *dice) part() api.Part {
	p := api.Part{Role: "b"}
	for i := range d.roll(4) {
		l := api.Local{Key: fmt.Sprint("p", i), Params: d.some([]string{"a", "b", "c", "x"}, 1+d.roll(3))}
		l.Index = d.roll(len(l.Params))
		p.Locals = append(p.Locals, l)
		if other := d.roll(len(l.Params)); other != l.Index && d.roll(2) == 0 {
			l.Index = other
			p.Locals = append(p.Locals, l)
		}
	}
	quiet := d.roll(2) == 0
	for i, l := range p.Locals {
		others := slices.Delete(slices.Clone(l.Params), l.Index, l.Index+1)
		p.Locals[i].Body = roller{d, l.Params[l.Index], others, p.Locals, quiet}.acts(4, 3)
	}
	p.Main = roller{d, "b", []string{"a", "c", "d"}, p.Locals, quiet}.acts(6, 4)
	return p
}

// ringed is a part with Locals that call one another, and little else.
func (d *dice) ringed() api.Part {
	p := api.Part{Role: "b"}
	n := 2 + d.roll(3)
	for i := range n {
		p.Locals = append(p.Locals, api.Local{Key: fmt.Sprint("p", i), Params: []string{"x", "y"}})
	}
	for i := range n {
		p.Locals[i].Body = d.calls(n, "x", "y", 3)
	}
	p.Main = d.calls(n, "b", "a", 4)
	return p
}

// calls are those of some of n Locals, with a few other acts.
func (d *dice) calls(n int, own, other string, most int) []api.Act {
	one := func() api.Act {
		switch d.roll(6) {
		case 0, 1, 2:
			return api.Act{Kind: api.ActCall, Proc: fmt.Sprint("p", d.roll(n)), Args: []string{own, other}}
		case 3:
			return api.Act{Kind: api.ActSend, With: other, Expr: name(d.variable())}
		}
		return api.Act{Kind: api.ActSet, Var: d.variable(), Expr: d.expr(1)}
	}
	var l []api.Act
	for range d.roll(most + 1) {
		switch d.roll(6) {
		case 0:
			l = append(l, api.Act{Kind: api.ActIf, Expr: name("z"), Then: []api.Act{one()}})
		case 1:
			l = append(l, api.Act{Kind: api.ActIf, Expr: name("z"), Else: []api.Act{one(), one()}})
		default:
			l = append(l, one())
		}
	}
	return l
}

// mail is what a part may hear.
func (d *dice) mail(most int) []api.Heard {
	var l []api.Heard
	for range d.roll(most + 1) {
		h := api.Heard{With: d.pick("a", "c", "d")}
		if d.roll(2) == 0 {
			h.Value = d.roll(3)
		} else {
			h.Label = d.pick("l", "m", "n")
		}
		l = append(l, h)
	}
	return l
}
