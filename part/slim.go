package part

import (
	"slices"

	"promptbook/api"
	"promptbook/fresh"
	"promptbook/numbered"
	"promptbook/raw"
)

// slimmer leaves out acts of a part in its own memory.
type slimmer struct {
	*numbered.Part
	usage
	called  []int   // the Locals that Main calls, directly or by way of others, each one behind those that it calls (where these do not call it)
	callers [][]int // of each Local, the Locals among these that call it
}

// slim is the slim part. The order of what it does differs from that of the chapter where this leads to the same end sooner. Simple expressions stay as they are when they are made simple again, so that once is enough. The Locals that are not called are left out at the end: what is needed elsewhere does not depend on them. And as no ActSet becomes needed because another act goes, those that others need which are left out themselves can go at the same time.
func slim(p api.Part) api.Part {
	t := numbered.NewPart(simplified(p))
	s := &slimmer{Part: t, usage: usageOf(t)}
	for before := -1; before != s.size(); {
		before = s.size()
		s.decide()
		s.findCalled()
		s.leaveSets()
	}
	return s.result()
}

// eachList replaces Main and the Bodies.
func (s *slimmer) eachList(by func(l []*numbered.Cue) []*numbered.Cue) {
	s.Main = by(s.Main)
	for i, body := range s.Bodies {
		s.Bodies[i] = by(body)
	}
}

func (s *slimmer) size() int {
	sum := sizeOf(s.Main)
	for _, body := range s.Bodies {
		sum += sizeOf(body)
	}
	return sum
}

func sizeOf(l []*numbered.Cue) int {
	sum := len(l)
	for _, c := range l {
		for _, block := range c.Blocks {
			sum += sizeOf(block)
		}
	}
	return sum
}

// decide puts branches in the place of the ActIfs that need not decide, from inside to outside.
func (s *slimmer) decide() {
	s.eachList(decided)
}

func decided(l []*numbered.Cue) []*numbered.Cue {
	var out []*numbered.Cue
	for _, c := range l {
		for i, block := range c.Blocks {
			c.Blocks[i] = decided(block)
		}
		if branch, ok := only(c); ok {
			out = append(out, branch...)
		} else {
			out = append(out, c)
		}
	}
	return out
}

// only is the only list that an ActIf can do, if there is just one.
func only(c *numbered.Cue) ([]*numbered.Cue, bool) {
	if c.Act.Kind != api.ActIf {
		return nil, false
	}
	then, otherwise := c.Blocks[0], c.Blocks[1]
	if c.Act.Expr.Op == api.OpNumber {
		if c.Act.Expr.N == 0 {
			return otherwise, true
		}
		return then, true
	}
	return then, equal(then, otherwise)
}

// equal compares lists of acts with all that is within them.
func equal(a, b []*numbered.Cue) bool {
	return slices.EqualFunc(a, b, func(x, y *numbered.Cue) bool {
		return raw.EqualHeads(x.Act, y.Act) && slices.Equal(labels(x.Act), labels(y.Act)) && slices.EqualFunc(x.Blocks, y.Blocks, equal)
	})
}

func labels(a api.Act) []string {
	var l []string
	for _, o := range a.Offers {
		l = append(l, o.Label)
	}
	return l
}

// findCalled finds the Locals that are called.
func (s *slimmer) findCalled() {
	s.called, s.callers = nil, make([][]int, len(s.Locals))
	seen := make([]bool, len(s.Locals))
	var visit func(l []*numbered.Cue)
	visit = func(l []*numbered.Cue) {
		for _, c := range l {
			for _, block := range c.Blocks {
				visit(block)
			}
			if c.Callee == numbered.NoLocal {
				continue
			}
			if c.Local != numbered.NoLocal {
				s.callers[c.Callee] = append(s.callers[c.Callee], c.Local)
			}
			if !seen[c.Callee] {
				seen[c.Callee] = true
				visit(s.Bodies[c.Callee])
				s.called = append(s.called, c.Callee)
			}
		}
	}
	visit(s.Main)
}

// leaveSets leaves out the ActSets whose variables are not needed behind them, by the acts that are still there on the way back through one Body; what is needed through other Bodies was found out before.
func (s *slimmer) leaveSets() {
	n := newNeeds(s)
	keep := func(c *numbered.Cue, behind marks) bool {
		return c.Act.Kind != api.ActSet || behind.has(s.sets[c.Number])
	}
	s.Main = n.back(s.Main, n.none(), keep)
	for _, local := range s.called {
		s.Bodies[local] = n.back(s.Bodies[local], n.ends[local], keep)
	}
}

// result is the part in new memory.
func (s *slimmer) result() api.Part {
	p := api.Part{Role: s.Role, Main: acts(s.Main)}
	slices.Sort(s.called)
	for _, i := range s.called {
		l := s.Locals[i]
		p.Locals = append(p.Locals, api.Local{Key: l.Key, Index: l.Index, Params: slices.Clone(l.Params), Body: acts(s.Bodies[i])})
	}
	return p
}

func acts(l []*numbered.Cue) []api.Act {
	var out []api.Act
	for _, c := range l {
		a := fresh.ActHead(c.Act)
		switch a.Kind {
		case api.ActIf:
			a.Then, a.Else = acts(c.Blocks[0]), acts(c.Blocks[1])
		case api.ActOffer:
			for i, o := range c.Act.Offers {
				a.Offers = append(a.Offers, api.Offer{Label: o.Label, Body: acts(c.Blocks[i])})
			}
		}
		out = append(out, a)
	}
	return out
}
