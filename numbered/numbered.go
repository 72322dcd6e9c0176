// Package numbered has plays with the numbers of their steps, and parts with those of their acts.
package numbered

import "promptbook/api"

// NoProc stands where there is no index of a procedure.
const NoProc = -1

// Node is a step at its place in a play.
type Node struct {
	Step       api.Step // its lists are still those of the play
	Number     int
	Proc       int // the procedure in which it stands; NoProc in Main
	Callee     int // the procedure that it calls; NoProc if it calls none that there is
	Then, Else []*Node
}

// Play is a play with the numbers of its steps.
type Play struct {
	Procs  []api.Proc
	Nodes  []*Node // all of them, by number
	Main   []*Node
	Bodies [][]*Node
	Within [][]*Node // for each procedure all of its steps, by number
}

// New numbers the steps of a play.
func New(p api.Play) *Play {
	index := map[string]int{}
	for i, q := range p.Procs {
		index[q.Key] = i
	}
	out := &Play{Procs: p.Procs}
	out.Main = out.list(p.Main, NoProc, index)
	for i, q := range p.Procs {
		first := len(out.Nodes)
		body := out.list(q.Body, i, index)
		out.Bodies = append(out.Bodies, body)
		out.Within = append(out.Within, out.Nodes[first:])
	}
	return out
}

// list numbers the steps of a list, which stands in a procedure.
func (p *Play) list(l []api.Step, proc int, index map[string]int) []*Node {
	var out []*Node
	for _, s := range l {
		n := &Node{Step: s, Number: len(p.Nodes), Proc: proc, Callee: NoProc}
		if i, ok := index[s.Proc]; ok {
			n.Callee = i
		}
		p.Nodes = append(p.Nodes, n)
		n.Then = p.list(s.Then, proc, index)
		n.Else = p.list(s.Else, proc, index)
		out = append(out, n)
	}
	return out
}

// Roles are those of a step, without those within it; the list can be that of the step.
func (n *Node) Roles() []string {
	switch s := n.Step; {
	case s.Kind == api.StepCall:
		return s.Args
	case s.To == "":
		return []string{s.Role}
	default:
		return []string{s.Role, s.To}
	}
}

// Keys are those of the procedures for which is holds, in order.
func (p *Play) Keys(is func(proc int) bool) []string {
	var out []string
	for i, q := range p.Procs {
		if is(i) {
			out = append(out, q.Key)
		}
	}
	return out
}

// Numbers are those of the steps for which is holds, rising.
func (p *Play) Numbers(is func(n *Node) bool) []int {
	var out []int
	for _, n := range p.Nodes {
		if is(n) {
			out = append(out, n.Number)
		}
	}
	return out
}
