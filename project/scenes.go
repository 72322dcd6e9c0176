package project

import (
	"promptbook/api"
	"promptbook/numbered"
)

// scene is a step as one of the roles sees it that take part in it.
type scene struct {
	node            *numbered.Node
	role            string
	then, otherwise []*scene // of a choice
	outer           *scene   // the innermost choice around it that the role does not decide; nil if there is none
	beats           []*beat  // what the role does in it; of a choice that it does not decide, when this is settled
	tell            *tell    // the selection that can be left out, if it is one
	keeps           []*tell  // of a choice, selections that cannot be left out because it would be blind
}

func newScene(n *numbered.Node, role string) *scene {
	s := &scene{node: n, role: role}
	if act, alone := actOf(n.Step, role); alone {
		b := &beat{act: act}
		if act.Kind == api.ActIf {
			b.choice = s
		}
		s.beats = []*beat{b}
	}
	return s
}

// hears says whether the role is told a label.
func (s *scene) hears() bool {
	return s.node.Step.Kind == api.StepTell && s.node.Step.To == s.role
}

// isOut says whether it is a selection that has been left out.
func (s *scene) isOut() bool {
	return s.tell != nil && s.tell.out
}

// isUndecided says whether it is a choice that another role decides.
func (s *scene) isUndecided() bool {
	return s.node.Step.Kind == api.StepIf && s.node.Step.Role != s.role
}

// around is the outer of the scenes in the branches of a choice.
func (s *scene) around() *scene {
	if s.isUndecided() {
		return s
	}
	return s.outer
}

// settle merges the branches of an undecided choice, when those within them are settled. It returns false, and changes nothing, if they cannot be merged.
func (s *scene) settle() bool {
	merged, ok := merge(join(s.then), join(s.otherwise))
	if ok {
		s.beats = merged
	}
	return ok
}

// join is what a role does in a list of scenes.
func join(l []*scene) []*beat {
	var out []*beat
	for i, s := range l {
		switch {
		case s.isOut():
			continue
		case s.hears():
			told := offer{s.node.Step.Label, join(l[i+1:])}
			return append(out, &beat{act: api.Act{Kind: api.ActOffer, With: s.node.Step.Role}, offers: []offer{told}})
		}
		out = append(out, s.beats...)
	}
	return out
}

// link gives scenes their outer.
func link(l []*scene, outer *scene) {
	for _, s := range l {
		s.outer = outer
		link(s.then, s.around())
		link(s.otherwise, s.around())
	}
}

// eachScene visits the scenes of a list, and those within them, in the order of their numbers.
func eachScene(l []*scene, visit func(s *scene)) {
	for _, s := range l {
		visit(s)
		eachScene(s.then, visit)
		eachScene(s.otherwise, visit)
	}
}
