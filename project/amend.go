package project

import (
	"slices"

	"promptbook/api"
	"promptbook/fresh"
	"promptbook/numbered"
)

// The labels of the selections that are added.
const (
	labelThen = "yes"
	labelElse = "no"
)

// repair has the selections that were added to a choice.
type repair struct{ then, otherwise []*tell }

// amender repairs a play.
type amender struct {
	*stage
	repairs []repair // by the numbers of the choices
	tells   []*tell  // all that were added, by number
}

func newAmender(g *stage) *amender {
	a := &amender{stage: g, repairs: make([]repair, len(g.Nodes))}
	for i, q := range g.Procs {
		a.mend(g.Bodies[i], q.Params)
	}
	a.mend(g.Main, g.roles)
	a.collect(g.Main)
	for _, body := range g.Bodies {
		a.collect(body)
	}
	return a
}

// mend repairs the choices of a list from inside to outside.
func (a *amender) mend(l []*numbered.Node, roles []string) {
	for _, n := range l {
		if n.Step.Kind != api.StepIf {
			continue
		}
		a.mend(n.Then, roles)
		a.mend(n.Else, roles)
		a.mendChoice(n, roles)
	}
}

func (a *amender) mendChoice(n *numbered.Node, roles []string) {
	decider := a.seen[n.Number][n.Step.Role]
	var blind []*scene
	for _, role := range roles {
		if s := a.seen[n.Number][role]; s != nil && s != decider && !s.settle() {
			blind = append(blind, s)
		}
	}
	a.repairs[n.Number] = repair{
		then:      announce(decider, blind, labelThen, func(s *scene) *[]*scene { return &s.then }),
		otherwise: announce(decider, blind, labelElse, func(s *scene) *[]*scene { return &s.otherwise }),
	}
	for _, s := range blind {
		s.settle()
	}
}

// announce puts selections at the beginning of a branch.
func announce(decider *scene, blind []*scene, label string, branch func(s *scene) *[]*scene) []*tell {
	var tells []*tell
	var said []*scene
	for _, s := range blind {
		step := api.Step{Kind: api.StepTell, Role: decider.role, To: s.role, Label: label}
		n := &numbered.Node{Step: step, Callee: numbered.NoProc}
		t := newTell(newScene(n, step.Role), newScene(n, step.To))
		t.teller.outer, t.told.outer = decider.around(), s.around()
		tells = append(tells, t)
		said = append(said, t.teller)
		heard := branch(s)
		*heard = slices.Insert(*heard, 0, t.told)
	}
	spoken := branch(decider)
	*spoken = slices.Concat(said, *spoken)
	return tells
}

// collect gathers the selections in the order of their numbers.
func (a *amender) collect(l []*numbered.Node) {
	for _, n := range l {
		a.tells = append(a.tells, a.repairs[n.Number].then...)
		a.collect(n.Then)
		a.tells = append(a.tells, a.repairs[n.Number].otherwise...)
		a.collect(n.Else)
	}
}

// steps are those of a list with the selections that are left.
func (a *amender) steps(l []*numbered.Node) []api.Step {
	var out []api.Step
	for _, n := range l {
		s := fresh.Head(n.Step)
		s.Then = append(left(a.repairs[n.Number].then), a.steps(n.Then)...)
		s.Else = append(left(a.repairs[n.Number].otherwise), a.steps(n.Else)...)
		out = append(out, s)
	}
	return out
}

// left are the selections that have not been left out.
func left(tells []*tell) []api.Step {
	var out []api.Step
	for _, t := range tells {
		if !t.out {
			out = append(out, t.teller.node.Step)
		}
	}
	return out
}

func isTell(n *numbered.Node) bool {
	return n.Step.Kind == api.StepTell
}

// plain are the steps of a list without selections.
func plain(l []*numbered.Node) []api.Step {
	var out []api.Step
	for _, n := range l {
		if isTell(n) {
			continue
		}
		s := fresh.Head(n.Step)
		s.Then = plain(n.Then)
		s.Else = plain(n.Else)
		out = append(out, s)
	}
	return out
}

// rebuilt is a play whose lists are made anew.
func (g *stage) rebuilt(made func(l []*numbered.Node) []api.Step) api.Play {
	out := api.Play{Main: made(g.Main)}
	for i, q := range g.Procs {
		out.Procs = append(out.Procs, api.Proc{Key: q.Key, Params: slices.Clone(q.Params), Body: made(g.Bodies[i])})
	}
	return out
}
