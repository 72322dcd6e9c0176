package weave

// orders are for each set of events in how many orders they can come, before all others: in none if the set is no cut.
func (p pasts) orders() []int {
	out := make([]int, 1<<len(p))
	out[0] = 1
	for some := range out {
		for e, past := range p {
			if cut := set(some); !cut.has(e) && past&^cut == 0 {
				out[cut|only(e)] += out[some]
			}
		}
	}
	return out
}

// cuts is how many cuts there are.
func (p pasts) cuts() int {
	n := 0
	for _, orders := range p.orders() {
		if orders > 0 {
			n++
		}
	}
	return n
}

// mostUnderWay is how many letters can be under way on a lane at most. It is right behind a letter, in the smallest cut with it: there only what happens before it has been taken.
func (h *history) mostUnderWay(way lane) int {
	gone := h.longest(func(from, _ int) int {
		if where, is := got(h.events[from]); is && where == way {
			return 1
		}
		return 0
	})
	most, letters := 0, 0
	for e, event := range h.events {
		if where, is := sent(event); is && where == way {
			letters++
			most = max(most, letters-gone[e])
		}
	}
	return most
}
