package weave

import (
	"cmp"
	"container/heap"
	"slices"
	"strings"

	"promptbook/api"
)

// before says for each arrow whether its From happens before its To. As many arrows as a set can have are answered by one way through the events.
func (h *history) before(asked []api.Arrow) []bool {
	var out []bool
	for some := range slices.Chunk(asked, setSize) {
		starts := make([]set, len(h.events))
		for number, a := range some {
			starts[a.From] |= only(number)
		}
		reached := h.united(func(e int) set { return starts[e] })
		for number, a := range some {
			out = append(out, reached[a.To].has(number))
		}
	}
	return out
}

// arrows are all that have no event between. There is one from the later cause of an event to it; from the earlier one only if it does not lead to the later one.
func (h *history) arrows() []api.Arrow {
	var out, doubtful, detours []api.Arrow
	for e, causes := range h.causes {
		for i, c := range causes {
			if i+1 == len(causes) {
				out = append(out, api.Arrow{From: c, To: e})
			} else {
				doubtful = append(doubtful, api.Arrow{From: c, To: e})
				detours = append(detours, api.Arrow{From: c, To: causes[i+1]})
			}
		}
	}
	for i, leads := range h.before(detours) {
		if !leads {
			out = append(out, doubtful[i])
		}
	}
	slices.SortFunc(out, func(x, y api.Arrow) int {
		return cmp.Or(cmp.Compare(x.From, y.From), cmp.Compare(x.To, y.To))
	})
	return out
}

// roles are those of the events, rising.
func (h *history) roles() []string {
	var out []string
	for _, e := range h.events {
		out = append(out, e.Role)
	}
	slices.Sort(out)
	return slices.Compact(out)
}

// clocks are for each event how many events of each of the roles are itself, or happen before it.
func (h *history) clocks(roles []string) [][]int {
	out := make([][]int, len(h.events))
	for e, causes := range h.causes {
		clock := make([]int, len(roles))
		for _, c := range causes {
			for role, n := range out[c] {
				clock[role] = max(clock[role], n)
			}
		}
		own, _ := slices.BinarySearch(roles, h.events[e].Role)
		clock[own]++
		out[e] = clock
	}
	return out
}

// layers are the events by how many stand before each one in the longest chain that ends with it.
func (h *history) layers() [][]int {
	var out [][]int
	for e, depth := range h.longest(func(int, int) int { return 1 }) {
		if depth == len(out) {
			out = append(out, nil)
		}
		out[depth] = append(out[depth], e)
	}
	return out
}

// byRoles are the events of each role in their order, role by role.
func (h *history) byRoles() []api.Event {
	out := slices.Clone(h.events)
	slices.SortStableFunc(out, func(x, y api.Event) int { return strings.Compare(x.Role, y.Role) })
	return out
}

// normal are the events in an order in which always the least role goes on that can.
func (h *history) normal() []api.Event {
	var out []api.Event
	next := &ready{events: h.events}
	missing := make([]int, len(h.events))
	for e, causes := range h.causes {
		missing[e] = len(causes)
		if missing[e] == 0 {
			heap.Push(next, e)
		}
	}
	for next.Len() > 0 {
		e := heap.Pop(next).(int)
		out = append(out, h.events[e])
		for _, f := range h.effects[e] {
			missing[f]--
			if missing[f] == 0 {
				heap.Push(next, f)
			}
		}
	}
	return out
}

// ready is a heap of the events that can come next, at most one of each role: the one of the least role is on top.
type ready struct {
	events []api.Event
	list   []int
}

// Len is how many there are.
func (r *ready) Len() int {
	return len(r.list)
}

// Less compares roles.
func (r *ready) Less(i, k int) bool {
	return r.events[r.list[i]].Role < r.events[r.list[k]].Role
}

// Swap lets two change places.
func (r *ready) Swap(i, k int) {
	r.list[i], r.list[k] = r.list[k], r.list[i]
}

// Push adds one at the end.
func (r *ready) Push(e any) {
	r.list = append(r.list, e.(int))
}

// Pop takes the one at the end.
func (r *ready) Pop() any {
	last := len(r.list) - 1
	e := r.list[last]
	r.list = r.list[:last]
	return e
}
