package part

import (
	"promptbook/api"
	"promptbook/numbered"
	"promptbook/worklist"
)

// The numbers of acts from which none is told.
const (
	tooMany = 1_000_000_001 // stands for all greater ones, too
	never   = tooMany + 1   // there is no way to the end
)

// lengths are how many acts are done at least.
type lengths struct {
	*numbered.Part
	bodies []int // of the Bodies of Locals, as far as it is known
}

func newLengths(p *numbered.Part) *lengths {
	x := &lengths{Part: p}
	callers := make([][]int, len(p.Locals))
	w := worklist.New[int]()
	for i := range p.Locals {
		x.bodies = append(x.bodies, never)
		w.Add(i)
	}
	for _, c := range p.Cues {
		if c.Callee != numbered.NoLocal && c.Local != numbered.NoLocal {
			callers[c.Callee] = append(callers[c.Callee], c.Local)
		}
	}
	w.Run(func(local int) {
		if n := x.list(p.Bodies[local]); n < x.bodies[local] {
			x.bodies[local] = n
			for _, caller := range callers[local] {
				w.Add(caller)
			}
		}
	})
	return x
}

func (x *lengths) list(l []*numbered.Cue) int {
	sum := 0
	for _, c := range l {
		sum = plus(sum, x.cue(c))
	}
	return sum
}

func (x *lengths) cue(c *numbered.Cue) int {
	if c.Callee != numbered.NoLocal {
		return x.bodies[c.Callee]
	}
	if len(c.Blocks) == 0 {
		return 1
	}
	least := never
	for _, block := range c.Blocks {
		least = min(least, x.list(block))
	}
	return plus(least, 1)
}

// plus adds numbers of acts: what never ends does not end behind others either, and too many stay too many.
func plus(a, b int) int {
	if a == never || b == never {
		return never
	}
	return min(a+b, tooMany)
}

// shortest is the number for Main.
func shortest(p *numbered.Part) (int, bool, api.Errno) {
	switch n := newLengths(p).list(p.Main); n {
	case never:
		return 0, false, api.OK
	case tooMany:
		return 0, false, api.ErrFull
	default:
		return n, true, api.OK
	}
}
