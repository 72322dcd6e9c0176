package project

import (
	"slices"

	"promptbook/api"
	"promptbook/check"
	"promptbook/numbered"
	"promptbook/raw"
	"promptbook/script"
)

// stage is a well-formed play, and what each role sees of it.
type stage struct {
	*numbered.Play
	roles    []string
	main     map[string]*strand
	bodies   []map[string]*strand // those of the procedures, for their Params
	seen     []map[string]*scene  // for each step, by its number, what the roles see of it
	anyBlind bool                 // whether a choice is blind, in Main or in a procedure
}

// strand is what one role sees of Main, or of the body of a procedure.
type strand struct {
	scenes []*scene
	blind  []int   // the numbers of the choices that are blind, rising: none of them is within another one
	calls  []place // into which they call the role, perhaps more than once
}

func open(p api.Play) (*stage, api.Errno) {
	if err := check.Check(p); err != api.OK {
		return nil, err
	}
	roles, err := script.Roles(p)
	if err != api.OK {
		return nil, err
	}
	g := &stage{Play: numbered.New(p), roles: roles}
	g.seen = make([]map[string]*scene, len(g.Nodes))
	g.main = g.strands(g.Main, roles)
	for i, q := range g.Procs {
		g.bodies = append(g.bodies, g.strands(g.Bodies[i], q.Params))
	}
	return g, api.OK
}

// openFor opens a play for one of its roles.
func openFor(p api.Play, role string) (*stage, api.Errno) {
	g, err := open(p)
	switch {
	case err != api.OK:
		return nil, err
	case !raw.IsName(role):
		return nil, api.ErrName
	case !slices.Contains(g.roles, role):
		return nil, api.ErrNone
	}
	return g, api.OK
}

// strands has one for each of the roles.
func (g *stage) strands(l []*numbered.Node, roles []string) map[string]*strand {
	scenes := g.distribute(l)
	out := map[string]*strand{}
	for _, role := range roles {
		c := &strand{scenes: scenes[role]}
		link(c.scenes, nil)
		c.settle(c.scenes)
		g.anyBlind = g.anyBlind || len(c.blind) > 0
		out[role] = c
	}
	return out
}

// distribute gives each role the steps in which it takes part.
func (g *stage) distribute(l []*numbered.Node) map[string][]*scene {
	out := map[string][]*scene{}
	for _, n := range l {
		g.seen[n.Number] = g.views(n)
		for role, s := range g.seen[n.Number] {
			out[role] = append(out[role], s)
		}
	}
	return out
}

// views are what the roles see of a step.
func (g *stage) views(n *numbered.Node) map[string]*scene {
	out := map[string]*scene{}
	for _, role := range n.Roles() {
		out[role] = newScene(n, role)
	}
	then, otherwise := g.distribute(n.Then), g.distribute(n.Else)
	for _, branch := range []map[string][]*scene{then, otherwise} {
		for role := range branch {
			if out[role] == nil {
				out[role] = newScene(n, role)
			}
			out[role].then, out[role].otherwise = then[role], otherwise[role]
		}
	}
	return out
}

// settle settles choices from inside to outside, and says whether the list has a projection.
func (c *strand) settle(l []*scene) bool {
	whole := true
	for _, s := range l {
		if s.node.Callee != numbered.NoProc {
			c.calls = append(c.calls, place{s.node.Callee, slices.Index(s.node.Step.Args, s.role)})
		}
		then := c.settle(s.then)
		otherwise := c.settle(s.otherwise)
		switch {
		case !then || !otherwise:
			whole = false
		case s.isUndecided() && !s.settle():
			c.blind = append(c.blind, s.node.Number)
			whole = false
		}
	}
	return whole
}
