package part

import (
	"slices"

	"promptbook/api"
	"promptbook/numbered"
	"promptbook/value"
	"promptbook/worklist"
)

// noVariable stands where an act sets no variable that matters.
const noVariable = -1

// usage is which variables the acts of a part set and read, by the numbers of the acts. Variables are numbered; those that no ActSet sets do not matter.
type usage struct {
	variables int
	sets      []int
	reads     [][]int
}

func usageOf(p *numbered.Part) usage {
	numbers := map[string]int{}
	for _, c := range p.Cues {
		if _, known := numbers[c.Act.Var]; c.Act.Kind == api.ActSet && !known {
			numbers[c.Act.Var] = len(numbers)
		}
	}
	u := usage{variables: len(numbers)}
	for _, c := range p.Cues {
		set, ok := numbers[c.Act.Var]
		if !ok {
			set = noVariable
		}
		u.sets = append(u.sets, set)
		u.reads = append(u.reads, readsOf(c.Act, numbers))
	}
	return u
}

func readsOf(a api.Act, numbers map[string]int) []int {
	var l []int
	if f, _ := formOf(a.Kind); f.has(fieldExpr) {
		names, _ := value.Vars(a.Expr)
		for _, name := range names {
			if i, ok := numbers[name]; ok {
				l = append(l, i)
			}
		}
	}
	return l
}

// needs are the variables that are needed at some places. What is needed at the beginning of a Body depends on what is needed behind the ActCall by which a way comes there: low is always needed there, and of what is needed behind the ActCall all that is in high.
type needs struct {
	*slimmer
	low, high []marks // by Local
	ends      []marks // what is needed at the ends of Bodies on ways that begin within them
	spare     []marks // memory that is not used any more
}

// newNeeds looks at Main and at the Locals that it calls.
func newNeeds(s *slimmer) *needs {
	n := &needs{slimmer: s}
	for range s.Locals {
		n.low = append(n.low, n.none())
		n.high = append(n.high, n.none())
		n.ends = append(n.ends, n.none())
	}
	n.findThrough()
	n.findEnds()
	return n
}

func (n *needs) none() marks {
	return newMarks(n.variables)
}

// findThrough finds low and high.
func (n *needs) findThrough() {
	w := worklist.New(n.called...)
	w.Run(func(local int) {
		low, high := n.none(), n.none()
		high.fill()
		n.back(n.Bodies[local], low, keepAll)
		n.back(n.Bodies[local], high, keepAll)
		more := n.low[local].join(low)
		if n.high[local].join(high) || more {
			for _, caller := range n.callers[local] {
				w.Add(caller)
			}
		}
	})
}

// findEnds finds what is needed at the ends of Bodies: what is needed behind any ActCall of them.
func (n *needs) findEnds() {
	callersFirst := slices.Clone(n.called)
	slices.Reverse(callersFirst)
	w := worklist.New(callersFirst...)
	tell := func(c *numbered.Cue, behind marks) bool {
		if c.Callee != numbered.NoLocal && n.ends[c.Callee].join(behind) {
			w.Add(c.Callee)
		}
		return true
	}
	n.back(n.Main, n.none(), tell)
	w.Run(func(local int) {
		n.back(n.Bodies[local], slices.Clone(n.ends[local]), tell)
	})
}

// keeper says whether an act is to stay, by what is needed behind it.
type keeper func(c *numbered.Cue, behind marks) bool

func keepAll(*numbered.Cue, marks) bool { return true }

// back goes from the end of a list to its beginning. At first needed is what is needed behind the list, and at the end what is needed before it. It returns the list, in the same memory, without the acts that are not to stay; the way back goes on as if these had never been there.
func (n *needs) back(l []*numbered.Cue, needed marks, keep keeper) []*numbered.Cue {
	first := len(l)
	for i := len(l) - 1; i >= 0; i-- {
		if keep(l[i], needed) {
			n.over(l[i], needed, keep)
			first--
			l[first] = l[i]
		}
	}
	return l[first:]
}

// over goes back over an act.
func (n *needs) over(c *numbered.Cue, needed marks, keep keeper) {
	if v := n.sets[c.Number]; v != noVariable {
		needed.remove(v)
	}
	if c.Callee != numbered.NoLocal {
		needed.meet(n.high[c.Callee])
		needed.join(n.low[c.Callee])
	}
	if len(c.Blocks) > 0 {
		behind := n.copied(needed)
		clear(needed)
		for i, block := range c.Blocks {
			before := n.copied(behind)
			c.Blocks[i] = n.back(block, before, keep)
			needed.join(before)
			n.spare = append(n.spare, before)
		}
		n.spare = append(n.spare, behind)
	}
	for _, v := range n.reads[c.Number] {
		needed.put(v)
	}
}

// copied is a copy, in memory that is not used any more, if there is some.
func (n *needs) copied(m marks) marks {
	last := len(n.spare) - 1
	if last < 0 {
		return slices.Clone(m)
	}
	c := n.spare[last]
	n.spare = n.spare[:last]
	copy(c, m)
	return c
}
