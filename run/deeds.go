package run

import (
	"promptbook/api"
	"promptbook/cast"
	"promptbook/meaning"
	"promptbook/numbered"
)

// variable is what a step calls so.
func variable(c cast.Cast, v api.Var) api.Var {
	return api.Var{Role: c.Role(v.Role), Name: v.Name}
}

// noChoice stands where there is no choice.
const noChoice = -1

// deed is something that has been done: a step, or all of a branch of a choice.
type deed struct {
	node   *numbered.Node // the step, or the choice
	cast   cast.Cast
	value  int // of the step's Expr
	choice int // which deed was the choice whose branch has been done; noChoice for a step
}

func (d deed) isStep() bool {
	return d.choice == noChoice
}

// branch is the list that is done after a choice.
func (d deed) branch() []*numbered.Node {
	if d.value != 0 {
		return d.node.Then
	}
	return d.node.Else
}

// target is the variable that a step sets; its Name is empty if it sets none.
func (d deed) target() api.Var {
	return variable(d.cast, setBy(d.node.Step))
}

// setBy is the variable that a step sets as the play calls it; its Name is empty if it sets none.
func setBy(s api.Step) api.Var {
	if s.Kind == api.StepSend {
		return api.Var{Role: s.To, Name: s.Var}
	}
	return api.Var{Role: s.Role, Name: s.Var}
}

// numbers are those of the steps that have been done, in order.
func (m *machine) numbers() []int {
	var l []int
	for _, d := range m.deeds {
		if d.isStep() {
			l = append(l, d.node.Number)
		}
	}
	return l
}

func (m *machine) events() []api.Event {
	var l []api.Event
	for _, d := range m.deeds {
		if d.isStep() {
			l = append(l, d.events()...)
		}
	}
	return l
}

// events are those of a step.
func (d deed) events() []api.Event {
	s := d.node.Step
	role, to := d.cast.Role(s.Role), d.cast.Role(s.To)
	switch s.Kind {
	case api.StepSend:
		return []api.Event{
			{Role: role, Kind: api.ActSend, With: to, Value: d.value},
			{Role: to, Kind: api.ActTake, With: role, Name: s.Var, Value: d.value},
		}
	case api.StepTell:
		return []api.Event{
			{Role: role, Kind: api.ActTell, With: to, Name: s.Label},
			{Role: to, Kind: api.ActOffer, With: role, Name: s.Label},
		}
	case api.StepSet:
		return []api.Event{{Role: role, Kind: api.ActSet, Name: s.Var, Value: d.value}}
	case api.StepIf:
		return []api.Event{{Role: role, Kind: api.ActIf, Value: meaning.Truth(d.value != 0)}}
	}
	return nil
}
