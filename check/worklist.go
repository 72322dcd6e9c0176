package check

import "promptbook/numbered"

// worklist has procedures that are still to be looked at, each one once, the first one that was added first.
type worklist struct {
	queue   []int
	waiting map[int]bool
}

func newWorklist() *worklist {
	return &worklist{waiting: map[int]bool{}}
}

func (w *worklist) add(proc int) {
	if !w.waiting[proc] {
		w.waiting[proc] = true
		w.queue = append(w.queue, proc)
	}
}

// run does each procedure that waits, until none does. What is done can add others, and itself again.
func (w *worklist) run(do func(proc int)) {
	for len(w.queue) > 0 {
		proc := w.queue[0]
		w.queue = w.queue[1:]
		w.waiting[proc] = false
		do(proc)
	}
}

// settle looks at each procedure, and again at those that call one that has changed, until nothing changes. What look finds out about a procedure follows from what it has found out about those that this one calls.
func (t *tree) settle(look func(proc int) (changed bool)) {
	callers := make([][]int, len(t.Procs))
	w := newWorklist()
	for i := range t.Procs {
		w.add(i)
		for _, n := range t.Within[i] {
			if n.Callee != numbered.NoProc {
				callers[n.Callee] = append(callers[n.Callee], i)
			}
		}
	}
	w.run(func(proc int) {
		if look(proc) {
			for _, i := range callers[proc] {
				w.add(i)
			}
		}
	})
}
