// Package worklist keeps what is still to be looked at.
package worklist

// List has things that wait to be looked at, each one once, the first one that was added first.
type List[T comparable] struct {
	queue   []T
	waiting map[T]bool
}

// New is a list with some things, in order.
func New[T comparable](all ...T) *List[T] {
	w := &List[T]{waiting: map[T]bool{}}
	for _, x := range all {
		w.Add(x)
	}
	return w
}

// Add puts a thing at the end, if it does not wait already.
func (w *List[T]) Add(x T) {
	if !w.waiting[x] {
		w.waiting[x] = true
		w.queue = append(w.queue, x)
	}
}

// Run does each thing that waits, until none does. What is done can add others, and itself again.
func (w *List[T]) Run(do func(x T)) {
	for len(w.queue) > 0 {
		x := w.queue[0]
		w.queue = w.queue[1:]
		w.waiting[x] = false
		do(x)
	}
}
