package check

// leads tells which procedures lead to which ones.
type leads [][]bool

func (t *tree) leads() leads {
	to := make(leads, len(t.procs))
	for i := range to {
		to[i] = make([]bool, len(t.procs))
		for _, n := range t.within[i] {
			if n.callee != noProc {
				to[i][n.callee] = true
			}
		}
	}
	// After each round all ways by way of the procedures up to mid are known.
	for mid := range to {
		for i := range to {
			for j := range to {
				to[i][j] = to[i][j] || to[i][mid] && to[mid][j]
			}
		}
	}
	return to
}

// inRing says whether a procedure belongs to a ring.
func (to leads) inRing(proc int) bool {
	return to[proc][proc]
}

// share says whether two procedures belong to one ring.
func (to leads) share(a, b int) bool {
	return to[a][b] && to[b][a]
}

func (t *tree) rings() [][]string {
	to := t.leads()
	done := make([]bool, len(t.procs))
	var out [][]string
	for i := range t.procs {
		if done[i] || !to.inRing(i) {
			continue
		}
		out = append(out, t.keys(func(proc int) bool {
			if !to.share(i, proc) {
				return false
			}
			done[proc] = true
			return true
		}))
	}
	return out
}

// deep are the numbers of the calls within rings that are not last.
func (t *tree) deep() []int {
	to := t.leads()
	last := make([]bool, len(t.nodes))
	for _, body := range t.bodies {
		markLast(body, last)
	}
	return t.numbers(func(n *node) bool {
		return n.proc != noProc && n.callee != noProc && to.share(n.proc, n.callee) && !last[n.number]
	})
}

func markLast(l []*node, last []bool) {
	if len(l) == 0 {
		return
	}
	n := l[len(l)-1]
	last[n.number] = true
	markLast(n.then, last)
	markLast(n.otherwise, last)
}
