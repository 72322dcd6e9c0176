package project

import (
	"cmp"
	"slices"

	"promptbook/api"
)

// place is that of a role in a procedure.
type place struct{ proc, index int }

// at is what a role sees at a place.
func (g *stage) at(p place) *strand {
	return g.bodies[p.proc][g.Procs[p.proc].Params[p.index]]
}

// entered are all places into which a role of Main gets, by procedure and index.
func (g *stage) entered(role string) []place {
	known := map[place]bool{}
	var out []place
	var enter func(calls []place)
	enter = func(calls []place) {
		for _, p := range calls {
			if !known[p] {
				known[p] = true
				out = append(out, p)
				enter(g.at(p).calls)
			}
		}
	}
	enter(g.main[role].calls)
	slices.SortFunc(out, func(a, b place) int {
		return cmp.Or(cmp.Compare(a.proc, b.proc), cmp.Compare(a.index, b.index))
	})
	return out
}

// part is that of a role, if it has one.
func (g *stage) part(role string) (api.Part, api.Errno) {
	main := g.main[role]
	if len(main.blind) > 0 {
		return api.Part{}, api.ErrRule
	}
	out := api.Part{Role: role, Main: acts(join(main.scenes))}
	for _, p := range g.entered(role) {
		c, q := g.at(p), g.Procs[p.proc]
		if len(c.blind) > 0 {
			return api.Part{}, api.ErrRule
		}
		out.Locals = append(out.Locals, api.Local{Key: q.Key, Index: p.index, Params: slices.Clone(q.Params), Body: acts(join(c.scenes))})
	}
	return out, api.OK
}

// blind are the numbers of the choices that are blind for a role, wherever it gets.
func (g *stage) blind(role string) []int {
	out := slices.Clone(g.main[role].blind)
	for _, p := range g.entered(role) {
		out = append(out, g.at(p).blind...)
	}
	slices.Sort(out)
	return slices.Compact(out)
}
