package check

import (
	"promptbook/numbered"
	"promptbook/worklist"
)

// settle looks at each procedure, and again at those that call one that has changed, until nothing changes. What look finds out about a procedure follows from what it has found out about those that this one calls.
func (t *tree) settle(look func(proc int) (changed bool)) {
	callers := make([][]int, len(t.Procs))
	w := worklist.New[int]()
	for i := range t.Procs {
		w.Add(i)
		for _, n := range t.Within[i] {
			if n.Callee != numbered.NoProc {
				callers[n.Callee] = append(callers[n.Callee], i)
			}
		}
	}
	w.Run(func(proc int) {
		if look(proc) {
			for _, i := range callers[proc] {
				w.Add(i)
			}
		}
	})
}
