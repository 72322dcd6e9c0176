package numbered

import "promptbook/api"

// NoLocal stands where there is no index of a Local.
const NoLocal = -1

// Cue is an act at its place in a part.
type Cue struct {
	Act    api.Act // its lists are still those of the part
	Number int
	Local  int      // the Local in which it stands; NoLocal in Main
	Callee int      // the Local that it calls; NoLocal if it calls none that there is
	Blocks [][]*Cue // Then and Else of ActIf, the Bodies of Offers of ActOffer
}

// Part is a part with the numbers of its acts.
type Part struct {
	Role   string
	Locals []api.Local
	Cues   []*Cue // all of them, by number
	Main   []*Cue
	Bodies [][]*Cue
}

// local is by what an act calls a Local.
type local struct {
	key   string
	index int
}

// NewPart numbers the acts of a part: those of Main, then those of the Locals, each one before those within it.
func NewPart(p api.Part) *Part {
	index := map[local]int{}
	for i, l := range p.Locals {
		index[local{l.Key, l.Index}] = i
	}
	out := &Part{Role: p.Role, Locals: p.Locals}
	out.Main = out.list(p.Main, NoLocal, index)
	for i, l := range p.Locals {
		out.Bodies = append(out.Bodies, out.list(l.Body, i, index))
	}
	return out
}

// list numbers the acts of a list, which stands in a Local.
func (p *Part) list(l []api.Act, in int, index map[local]int) []*Cue {
	var out []*Cue
	for _, a := range l {
		c := &Cue{Act: a, Number: len(p.Cues), Local: in, Callee: NoLocal}
		p.Cues = append(p.Cues, c)
		switch a.Kind {
		case api.ActCall:
			if i, ok := index[local{a.Proc, a.Index}]; ok {
				c.Callee = i
			}
		case api.ActIf:
			c.Blocks = append(c.Blocks, p.list(a.Then, in, index), p.list(a.Else, in, index))
		case api.ActOffer:
			for _, o := range a.Offers {
				c.Blocks = append(c.Blocks, p.list(o.Body, in, index))
			}
		}
		out = append(out, c)
	}
	return out
}
