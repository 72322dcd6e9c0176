package fresh

import (
	"slices"

	"promptbook/api"
)

// ActHead is a copy of an act without its Then, Else and Offers.
func ActHead(a api.Act) api.Act {
	a.Expr = Expr(a.Expr)
	a.Args = slices.Clone(a.Args)
	a.Then, a.Else, a.Offers = nil, nil, nil
	return a
}

// Act is a copy of an act with all that is within it.
func Act(a api.Act) api.Act {
	c := ActHead(a)
	c.Then = Acts(a.Then)
	c.Else = Acts(a.Else)
	for _, o := range a.Offers {
		c.Offers = append(c.Offers, api.Offer{Label: o.Label, Body: Acts(o.Body)})
	}
	return c
}

// Acts is a copy of a list of acts.
func Acts(l []api.Act) []api.Act {
	var out []api.Act
	for _, a := range l {
		out = append(out, Act(a))
	}
	return out
}

// Part is a copy of a part.
func Part(p api.Part) api.Part {
	c := api.Part{Role: p.Role, Main: Acts(p.Main)}
	for _, l := range p.Locals {
		c.Locals = append(c.Locals, api.Local{Key: l.Key, Index: l.Index, Params: slices.Clone(l.Params), Body: Acts(l.Body)})
	}
	return c
}
