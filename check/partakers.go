package check

import (
	"slices"

	"promptbook/numbered"
)

// partakers are, for each procedure, the indices of those of its Params that partake.
func (t *tree) partakers() [][]int {
	var out [][]int
	for _, partakes := range t.partaking() {
		var l []int
		for i, is := range partakes {
			if is {
				l = append(l, i)
			}
		}
		out = append(out, l)
	}
	return out
}

// partaking tells for each procedure which of its Params partake.
func (t *tree) partaking() [][]bool {
	out := make([][]bool, len(t.Procs))
	for i, q := range t.Procs {
		out[i] = make([]bool, len(q.Params))
	}
	t.settle(func(proc int) bool {
		changed := false
		for _, n := range t.Within[proc] {
			for i, role := range n.Roles() {
				if n.Callee != numbered.NoProc && !out[n.Callee][i] {
					continue
				}
				k := slices.Index(t.Procs[proc].Params, role)
				changed = changed || !out[proc][k]
				out[proc][k] = true
			}
		}
		return changed
	})
	return out
}
