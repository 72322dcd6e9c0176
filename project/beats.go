package project

import (
	"maps"
	"slices"

	"promptbook/api"
	"promptbook/fresh"
	"promptbook/raw"
)

// beat is an act of a projection. It does not change once it is made, so that many lists can have it.
type beat struct {
	act             api.Act // without Then, Else and Offers; its lists are those of the play
	choice          *scene  // of an ActIf that is no merge, the choice whose branches are done
	then, otherwise []*beat // of one that is
	offers          []offer // rising by their labels
}

type offer struct {
	label string
	body  []*beat
}

// actOf is the act of a role that takes part in a step, if its act follows from this step alone.
func actOf(s api.Step, role string) (act api.Act, alone bool) {
	own := s.Role == role
	switch {
	case s.Kind == api.StepSend && own:
		return api.Act{Kind: api.ActSend, With: s.To, Expr: s.Expr}, true
	case s.Kind == api.StepSend:
		return api.Act{Kind: api.ActTake, With: s.Role, Var: s.Var}, true
	case s.Kind == api.StepTell && own:
		return api.Act{Kind: api.ActTell, With: s.To, Label: s.Label}, true
	case s.Kind == api.StepSet:
		return api.Act{Kind: api.ActSet, Var: s.Var, Expr: s.Expr}, true
	case s.Kind == api.StepIf && own:
		return api.Act{Kind: api.ActIf, Expr: s.Expr}, true
	case s.Kind == api.StepCall:
		return api.Act{Kind: api.ActCall, Proc: s.Proc, Index: slices.Index(s.Args, role), Args: s.Args}, true
	}
	return api.Act{}, false
}

// branches are Then and Else of an ActIf. Those of a choice are not made before they are needed: in merges most of them never are.
func (b *beat) branches() (then, otherwise []*beat) {
	if b.choice == nil {
		return b.then, b.otherwise
	}
	return join(b.choice.then), join(b.choice.otherwise)
}

// merge is the merge of two lists, if they can be merged.
func merge(a, b []*beat) ([]*beat, bool) {
	if len(a) != len(b) {
		return nil, false
	}
	var out []*beat
	for i := range a {
		m, ok := mergeBeats(a[i], b[i])
		if !ok {
			return nil, false
		}
		out = append(out, m)
	}
	return out, true
}

func mergeBeats(a, b *beat) (*beat, bool) {
	if !raw.EqualHeads(a.act, b.act) {
		return nil, false
	}
	switch a.act.Kind {
	case api.ActOffer:
		offers, ok := mergeOffers(a.offers, b.offers)
		return &beat{act: a.act, offers: offers}, ok
	case api.ActIf:
		return mergeChoices(a, b)
	}
	return a, true
}

func mergeChoices(a, b *beat) (*beat, bool) {
	then, otherwise := a.branches()
	otherThen, otherElse := b.branches()
	then, ok := merge(then, otherThen)
	if !ok {
		return nil, false
	}
	otherwise, ok = merge(otherwise, otherElse)
	return &beat{act: a.act, then: then, otherwise: otherwise}, ok
}

func mergeOffers(a, b []offer) ([]offer, bool) {
	bodies := map[string][]*beat{}
	for _, o := range a {
		bodies[o.label] = o.body
	}
	for _, o := range b {
		body := o.body
		if other, both := bodies[o.label]; both {
			m, ok := merge(other, body)
			if !ok {
				return nil, false
			}
			body = m
		}
		bodies[o.label] = body
	}
	var out []offer
	for _, label := range slices.Sorted(maps.Keys(bodies)) {
		out = append(out, offer{label, bodies[label]})
	}
	return out, true
}

// acts are the beats of a list in new memory.
func acts(l []*beat) []api.Act {
	var out []api.Act
	for _, b := range l {
		a := b.act
		a.Expr = fresh.Expr(a.Expr)
		a.Args = slices.Clone(a.Args)
		then, otherwise := b.branches()
		a.Then, a.Else = acts(then), acts(otherwise)
		for _, o := range b.offers {
			a.Offers = append(a.Offers, api.Offer{Label: o.label, Body: acts(o.body)})
		}
		out = append(out, a)
	}
	return out
}
