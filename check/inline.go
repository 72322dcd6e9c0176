package check

import (
	"promptbook/api"
	"promptbook/fresh"
	"promptbook/numbered"
	"promptbook/raw"
	"promptbook/script"
)

// tooMany stands for all numbers of steps that are too great.
const tooMany = api.MaxSteps + 1

// inliner puts bodies in the place of calls.
type inliner struct {
	*tree
	rings leads
	sizes map[int]int        // of the bodies after inlining, as far as they are known
	made  map[int][]api.Step // the same bodies, as far as they were needed
}

func newInliner(t *tree) *inliner {
	return &inliner{tree: t, rings: t.leads(), sizes: map[int]int{}, made: map[int][]api.Step{}}
}

// vanishes says whether a step is a call that is replaced.
func (x *inliner) vanishes(n *numbered.Node) bool {
	return n.Callee != numbered.NoProc && !x.rings.inRing(n.Callee)
}

// total is how many steps the result would have, tooMany if there are more than MaxSteps.
func (x *inliner) total() int {
	sum := x.size(x.Main)
	for i, body := range x.Bodies {
		if x.rings.inRing(i) {
			sum += x.size(body)
		}
	}
	return min(sum, tooMany)
}

func (x *inliner) size(l []*numbered.Node) int {
	sum := 0
	for _, n := range l {
		if x.vanishes(n) {
			sum += x.bodySize(n.Callee)
		} else {
			sum += 1 + x.size(n.Then) + x.size(n.Else)
		}
		sum = min(sum, tooMany)
	}
	return sum
}

// bodySize counts each body once, because there can be more ways to it than can be counted.
func (x *inliner) bodySize(proc int) int {
	size, ok := x.sizes[proc]
	if !ok {
		size = x.size(x.Bodies[proc])
		x.sizes[proc] = size
	}
	return size
}

func (x *inliner) play() api.Play {
	return x.rebuiltPlay(x.rings.inRing, x.put)
}

func (x *inliner) put(n *numbered.Node) []api.Step {
	if !x.vanishes(n) {
		return head(n)
	}
	var pairs []api.Pair
	for i, param := range x.Procs[n.Callee].Params {
		pairs = append(pairs, api.Pair{Name: param, Value: n.Step.Args[i]})
	}
	l := fresh.Steps(x.body(n.Callee))
	rename(l, raw.Swap(pairs))
	return l
}

func (x *inliner) body(proc int) []api.Step {
	l, ok := x.made[proc]
	if !ok {
		l = rebuilt(x.Bodies[proc], x.put)
		x.made[proc] = l
	}
	return l
}

func (t *tree) inlined() (api.Play, api.Errno) {
	x := newInliner(t)
	if x.total() > api.MaxSteps {
		return api.Play{}, api.ErrFull
	}
	p := x.play()
	if err := script.CheckPlay(p); err != api.OK {
		return api.Play{}, err
	}
	return p, api.OK
}
