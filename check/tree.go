package check

import (
	"promptbook/api"
	"promptbook/script"
)

// noProc stands where there is no index of a procedure.
const noProc = -1

// node is a step at its place in a play.
type node struct {
	step            api.Step // its lists are still those of the play
	number          int
	proc            int // the procedure in which it stands; noProc in Main
	callee          int // the procedure that it calls; noProc if it calls none that there is
	then, otherwise []*node
}

// tree is a play with the numbers of its steps.
type tree struct {
	procs  []api.Proc
	nodes  []*node // all of them, by number
	main   []*node
	bodies [][]*node
	within [][]*node      // for each procedure all of its steps, by number
	index  map[string]int // of the procedures, by Key
}

// open makes the tree of a play, if it is well formed.
func open(p api.Play) (*tree, api.Errno) {
	if err := script.CheckPlay(p); err != api.OK {
		return nil, err
	}
	t := newTree(p)
	for _, n := range t.nodes {
		if err := t.checkNode(n); err != api.OK {
			return nil, err
		}
	}
	return t, api.OK
}

func newTree(p api.Play) *tree {
	t := &tree{procs: p.Procs, index: map[string]int{}}
	for i, q := range p.Procs {
		t.index[q.Key] = i
	}
	t.main = t.list(p.Main, noProc)
	for i, q := range p.Procs {
		first := len(t.nodes)
		body := t.list(q.Body, i)
		t.bodies = append(t.bodies, body)
		t.within = append(t.within, t.nodes[first:])
	}
	return t
}

// list numbers the steps of a list, which stands in a procedure.
func (t *tree) list(l []api.Step, proc int) []*node {
	var out []*node
	for _, s := range l {
		n := &node{step: s, number: len(t.nodes), proc: proc, callee: noProc}
		if i, ok := t.index[s.Proc]; ok {
			n.callee = i
		}
		t.nodes = append(t.nodes, n)
		n.then = t.list(s.Then, proc)
		n.otherwise = t.list(s.Else, proc)
		out = append(out, n)
	}
	return out
}

// keys are those of the procedures for which is holds, in order.
func (t *tree) keys(is func(proc int) bool) []string {
	var out []string
	for i, q := range t.procs {
		if is(i) {
			out = append(out, q.Key)
		}
	}
	return out
}

// numbers are those of the steps for which is holds, rising.
func (t *tree) numbers(is func(n *node) bool) []int {
	var out []int
	for _, n := range t.nodes {
		if is(n) {
			out = append(out, n.number)
		}
	}
	return out
}
