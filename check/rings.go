package check

import "promptbook/numbered"

// leads tells which procedures lead to which ones.
type leads [][]bool

func (t *tree) leads() leads {
	to := make(leads, len(t.Procs))
	for i := range to {
		to[i] = make([]bool, len(t.Procs))
		for _, n := range t.Within[i] {
			if n.Callee != numbered.NoProc {
				to[i][n.Callee] = true
			}
		}
	}
	// After each round all ways by way of the procedures up to mid are known.
	for mid := range to {
		for i := range to {
			for j := range to {
				to[i][j] = to[i][j] || to[i][mid] && to[mid][j]
			}
		}
	}
	return to
}

// inRing says whether a procedure belongs to a ring.
func (to leads) inRing(proc int) bool {
	return to[proc][proc]
}

// share says whether two procedures belong to one ring.
func (to leads) share(a, b int) bool {
	return to[a][b] && to[b][a]
}

func (t *tree) rings() [][]string {
	to := t.leads()
	done := make([]bool, len(t.Procs))
	var out [][]string
	for i := range t.Procs {
		if done[i] || !to.inRing(i) {
			continue
		}
		out = append(out, t.Keys(func(proc int) bool {
			if !to.share(i, proc) {
				return false
			}
			done[proc] = true
			return true
		}))
	}
	return out
}

// deep are the numbers of the calls within rings that are not last.
func (t *tree) deep() []int {
	to := t.leads()
	last := make([]bool, len(t.Nodes))
	for _, body := range t.Bodies {
		markLast(body, last)
	}
	return t.Numbers(func(n *numbered.Node) bool {
		return n.Proc != numbered.NoProc && n.Callee != numbered.NoProc && to.share(n.Proc, n.Callee) && !last[n.Number]
	})
}

func markLast(l []*numbered.Node, last []bool) {
	if len(l) == 0 {
		return
	}
	n := l[len(l)-1]
	last[n.Number] = true
	markLast(n.Then, last)
	markLast(n.Else, last)
}
