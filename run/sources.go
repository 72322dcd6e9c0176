package run

import (
	"slices"

	"promptbook/api"
	"promptbook/cast"
	"promptbook/numbered"
	"promptbook/value"
)

// search goes back through all that has been done, from the last value of a variable to first values.
type search struct {
	*machine
	wanted map[api.Var]bool          // the variables on whose values at this moment the last value depends
	counts []bool                    // of which deeds it depends on the choice
	names  map[place]map[string]bool // what settable has found out
}

// place is where a role stands in a procedure: the Param with an index.
type place struct{ proc, index int }

// sources are the variables on whose first values the last value of one depends.
func (m *machine) sources(of api.Var) []api.Var {
	x := &search{m, map[api.Var]bool{of: true}, make([]bool, len(m.deeds)), map[place]map[string]bool{}}
	for i := len(m.deeds) - 1; i >= 0; i-- {
		x.back(i)
	}
	return inOrder(x.wanted)
}

// back goes back over a deed. That what is set in a branch has the sources of its choice from then on needs no rule: if it is wanted there, the branch has set what is wanted behind it, or what that comes from, so that the choice counts already.
func (x *search) back(i int) {
	d := x.deeds[i]
	target := d.target()
	switch {
	case !d.isStep():
		x.counts[d.choice] = x.canSet(d.node.Then, d.cast) || x.canSet(d.node.Else, d.cast)
	case x.counts[i]:
		x.want(d)
	case x.wanted[target]:
		delete(x.wanted, target)
		x.want(d)
	}
}

// want wants the variables that a step reads.
func (x *search) want(d deed) {
	names, _ := value.Vars(d.node.Step.Expr)
	for _, name := range names {
		x.wanted[variable(d.cast, api.Var{Role: d.node.Step.Role, Name: name})] = true
	}
}

// canSet says whether a list can set a variable that is wanted.
func (x *search) canSet(l []*numbered.Node, c cast.Cast) bool {
	return slices.ContainsFunc(l, func(n *numbered.Node) bool {
		return x.wanted[variable(c, setBy(n.Step))] || x.calledCanSet(n, c) || x.canSet(n.Then, c) || x.canSet(n.Else, c)
	})
}

// calledCanSet says whether the procedure that a step calls can set a variable that is wanted.
func (x *search) calledCanSet(n *numbered.Node, c cast.Cast) bool {
	for i, arg := range n.Step.Args {
		for name := range x.settable(place{n.Callee, i}) {
			if x.wanted[variable(c, api.Var{Role: arg, Name: name})] {
				return true
			}
		}
	}
	return false
}

// settable are the names of the variables that a procedure can set of the role at a place.
func (x *search) settable(at place) map[string]bool {
	names, ok := x.names[at]
	if !ok {
		names = map[string]bool{}
		x.collect(at, names, map[place]bool{})
		x.names[at] = names
	}
	return names
}

func (x *search) collect(at place, names map[string]bool, seen map[place]bool) {
	if seen[at] {
		return
	}
	seen[at] = true
	param := x.Procs[at.proc].Params[at.index]
	for _, n := range x.Within[at.proc] {
		if v := setBy(n.Step); v.Role == param && v.Name != "" {
			names[v.Name] = true
		}
		if i := slices.Index(n.Step.Args, param); i >= 0 {
			x.collect(place{n.Callee, i}, names, seen)
		}
	}
}
