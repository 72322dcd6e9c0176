package project

import (
	"container/heap"
	"slices"

	"promptbook/numbered"
)

// tell is a selection that can be left out.
type tell struct {
	teller, told *scene
	out          bool
	order        int
}

func newTell(teller, told *scene) *tell {
	t := &tell{teller: teller, told: told}
	teller.tell, told.tell = t, t
	return t
}

// around are the choices that have to be settled again when a selection is left out, for both roles from inside to outside.
func (t *tell) around() []*scene {
	var out []*scene
	for _, s := range []*scene{t.told, t.teller} {
		for c := s.outer; c != nil; c = c.outer {
			out = append(out, c)
		}
	}
	return out
}

// leaveOut leaves a selection out, if no choice around it is blind then; undo takes this back. Otherwise it returns such a choice.
func (t *tell) leaveOut() (undo func(), blind *scene) {
	around := t.around()
	var before [][]*beat
	undo = func() {
		t.out = false
		for i, beats := range before {
			around[i].beats = beats
		}
	}
	t.out = true
	for _, c := range around {
		before = append(before, c.beats)
		if !c.settle() {
			undo()
			return nil, c
		}
	}
	return undo, nil
}

// agenda has selections that perhaps can be left out. It is a heap: the first one by its number is on top.
type agenda []*tell

func (a agenda) Len() int           { return len(a) }
func (a agenda) Less(i, k int) bool { return a[i].order < a[k].order }
func (a agenda) Swap(i, k int)      { a[i], a[k] = a[k], a[i] }

func (a *agenda) Push(x any) {
	if t, ok := x.(*tell); ok {
		*a = append(*a, t)
	}
}

func (a *agenda) Pop() any {
	last := len(*a) - 1
	t := (*a)[last]
	*a = (*a)[:last]
	return t
}

// thin leaves out selections, always the first one that can be left out. One that a choice keeps is not tried again before something within this choice has been left out.
func thin(tells []*tell) {
	for i, t := range tells {
		t.order = i
	}
	a := agenda(slices.Clone(tells))
	for len(a) > 0 {
		t := a[0]
		heap.Pop(&a)
		if _, blind := t.leaveOut(); blind != nil {
			blind.keeps = append(blind.keeps, t)
			continue
		}
		for _, c := range t.around() {
			for _, kept := range c.keeps {
				heap.Push(&a, kept)
			}
			c.keeps = nil
		}
	}
}

// spare are the numbers of the selections each of which alone can be left out.
func (g *stage) spare() []int {
	return g.Numbers(func(n *numbered.Node) bool {
		if !isTell(n) {
			return false
		}
		seen := g.seen[n.Number]
		undo, blind := newTell(seen[n.Step.Role], seen[n.Step.To]).leaveOut()
		if blind != nil {
			return false
		}
		undo()
		return true
	})
}
