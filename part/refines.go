package part

import (
	"slices"

	"promptbook/api"
	"promptbook/numbered"
	"promptbook/raw"
	"promptbook/worklist"
)

// couple is a Local of one part, and one of another part that it has to fit.
type couple struct{ one, other int }

// rehearsal compares two parts in which all Exprs are simple.
type rehearsal struct {
	one, other *numbered.Part
	met        map[couple]bool
	todo       *worklist.List[couple]
}

// refines looks at each couple once. Where it is met again, even within itself, it is taken to fit: if it does not, this is found out where it was met first.
func refines(a, b api.Part) bool {
	r := &rehearsal{
		one:   numbered.NewPart(simplified(a)),
		other: numbered.NewPart(simplified(b)),
		met:   map[couple]bool{},
		todo:  worklist.New[couple](),
	}
	fit := a.Role == b.Role && r.lists(r.one.Main, r.other.Main)
	r.todo.Run(func(c couple) {
		fit = fit && r.locals(c)
	})
	return fit
}

func (r *rehearsal) locals(c couple) bool {
	return slices.Equal(r.one.Locals[c.one].Params, r.other.Locals[c.other].Params) &&
		r.lists(r.one.Bodies[c.one], r.other.Bodies[c.other])
}

func (r *rehearsal) lists(one, other []*numbered.Cue) bool {
	return slices.EqualFunc(one, other, r.cues)
}

func (r *rehearsal) cues(one, other *numbered.Cue) bool {
	a, b := one.Act, other.Act
	a.Proc, b.Proc = "", ""
	if !raw.EqualHeads(a, b) {
		return false
	}
	switch a.Kind {
	case api.ActCall:
		r.meet(couple{one.Callee, other.Callee})
	case api.ActIf:
		return slices.EqualFunc(one.Blocks, other.Blocks, r.lists)
	case api.ActOffer:
		return r.offers(one, other)
	}
	return true
}

func (r *rehearsal) meet(c couple) {
	if !r.met[c] {
		r.met[c] = true
		r.todo.Add(c)
	}
}

// offers says whether one offers all that the other one does. Both lists rise by their labels.
func (r *rehearsal) offers(one, other *numbered.Cue) bool {
	mine, k := one.Act.Offers, 0
	for i, o := range other.Act.Offers {
		for k < len(mine) && mine[k].Label < o.Label {
			k++
		}
		if k == len(mine) || mine[k].Label != o.Label || !r.lists(one.Blocks[k], other.Blocks[i]) {
			return false
		}
	}
	return true
}
