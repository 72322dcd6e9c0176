package check

import (
	"promptbook/api"
	"promptbook/fresh"
	"promptbook/script"
)

// tooMany stands for all numbers of steps that are too great.
const tooMany = api.MaxSteps + 1

// inliner puts bodies in the place of calls.
type inliner struct {
	*tree
	rings leads
	sizes map[int]int        // of the bodies after inlining, as far as they are known
	made  map[int][]api.Step // the same bodies, as far as they were needed
}

func newInliner(t *tree) *inliner {
	return &inliner{tree: t, rings: t.leads(), sizes: map[int]int{}, made: map[int][]api.Step{}}
}

// vanishes says whether a step is a call that is replaced.
func (x *inliner) vanishes(n *node) bool {
	return n.callee != noProc && !x.rings.inRing(n.callee)
}

// total is how many steps the result would have, tooMany if there are more than MaxSteps.
func (x *inliner) total() int {
	sum := x.size(x.main)
	for i, body := range x.bodies {
		if x.rings.inRing(i) {
			sum += x.size(body)
		}
	}
	return min(sum, tooMany)
}

func (x *inliner) size(l []*node) int {
	sum := 0
	for _, n := range l {
		if x.vanishes(n) {
			sum += x.bodySize(n.callee)
		} else {
			sum += 1 + x.size(n.then) + x.size(n.otherwise)
		}
		sum = min(sum, tooMany)
	}
	return sum
}

// bodySize counts each body once, because there can be more ways to it than can be counted.
func (x *inliner) bodySize(proc int) int {
	size, ok := x.sizes[proc]
	if !ok {
		size = x.size(x.bodies[proc])
		x.sizes[proc] = size
	}
	return size
}

func (x *inliner) play() api.Play {
	return x.rebuiltPlay(x.rings.inRing, x.put)
}

func (x *inliner) put(n *node) []api.Step {
	if !x.vanishes(n) {
		return head(n)
	}
	names := map[string]string{}
	for i, param := range x.procs[n.callee].Params {
		names[param] = n.step.Args[i]
	}
	l := fresh.Steps(x.body(n.callee))
	rename(l, names)
	return l
}

func (x *inliner) body(proc int) []api.Step {
	l, ok := x.made[proc]
	if !ok {
		l = rebuilt(x.bodies[proc], x.put)
		x.made[proc] = l
	}
	return l
}

func (t *tree) inlined() (api.Play, api.Errno) {
	x := newInliner(t)
	if x.total() > api.MaxSteps {
		return api.Play{}, api.ErrFull
	}
	p := x.play()
	if err := script.CheckPlay(p); err != api.OK {
		return api.Play{}, err
	}
	return p, api.OK
}
