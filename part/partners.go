package part

import (
	"slices"
	"strings"

	"promptbook/api"
	"promptbook/numbered"
	"promptbook/worklist"
)

// figure is whoever has a name in Main, or in a Local.
type figure struct {
	roles marks     // the roles that it can be, by their indices
	parts []*figure // the Params for which it stands in ActCalls
}

// company has all figures. Each Param is looked at alone, because the lists of Args with which a Local can be called are too many.
type company struct {
	*numbered.Part
	roles  []string // of Main, rising
	main   map[string]*figure
	params [][]*figure // of each Local
}

func newCompany(p api.Part) *company {
	all := &company{Part: numbered.NewPart(p), roles: rolesOf(p), main: map[string]*figure{}}
	for i, role := range all.roles {
		all.main[role] = all.newFigure()
		all.main[role].roles.put(i)
	}
	for _, l := range p.Locals {
		var params []*figure
		for range l.Params {
			params = append(params, all.newFigure())
		}
		all.params = append(all.params, params)
	}
	all.cast()
	return all
}

func (all *company) newFigure() *figure {
	return &figure{roles: newMarks(len(all.roles))}
}

// named is the figure that has a name in a Local, or in Main.
func (all *company) named(name string, in int) *figure {
	if in == numbered.NoLocal {
		return all.main[name]
	}
	return all.params[in][slices.Index(all.Locals[in].Params, name)]
}

// cast finds the roles that stand for Params.
func (all *company) cast() {
	for _, c := range all.Cues {
		for i, arg := range c.Act.Args {
			f := all.named(arg, c.Local)
			f.parts = append(f.parts, all.params[c.Callee][i])
		}
	}
	w := worklist.New[*figure]()
	for _, role := range all.roles {
		w.Add(all.main[role])
	}
	w.Run(func(f *figure) {
		for _, g := range f.parts {
			if g.roles.join(f.roles) {
				w.Add(g)
			}
		}
	})
}

// deal is what an act does with a figure; an ActOffer is one for each label.
type deal struct {
	kind  int
	label string
	with  *figure
}

// deals are those of all acts, rising by their labels.
func (all *company) deals() []deal {
	var l []deal
	for _, c := range all.Cues {
		if c.Act.With == "" {
			continue
		}
		with := all.named(c.Act.With, c.Local)
		if c.Act.Kind != api.ActOffer {
			l = append(l, deal{c.Act.Kind, c.Act.Label, with})
		}
		for _, o := range c.Act.Offers {
			l = append(l, deal{c.Act.Kind, o.Label, with})
		}
	}
	slices.SortFunc(l, func(a, b deal) int { return strings.Compare(a.label, b.label) })
	return l
}

// partners are the roles with which there are deals.
func (all *company) partners() []api.Partner {
	found := make([]api.Partner, len(all.roles))
	for _, d := range all.deals() {
		d.with.roles.each(func(i int) {
			found[i].With = all.roles[i]
			agree(&found[i], d)
		})
	}
	return slices.DeleteFunc(found, func(p api.Partner) bool { return p.With == "" })
}

// agree adds a deal whose label is not less than those of earlier ones.
func agree(p *api.Partner, d deal) {
	switch d.kind {
	case api.ActSend:
		p.Sends = true
	case api.ActTake:
		p.Takes = true
	case api.ActTell:
		p.Tells = withLast(p.Tells, d.label)
	case api.ActOffer:
		p.Offers = withLast(p.Offers, d.label)
	}
}

func withLast(l []string, label string) []string {
	if n := len(l); n > 0 && l[n-1] == label {
		return l
	}
	return append(l, label)
}
