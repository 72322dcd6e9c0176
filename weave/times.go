package weave

import (
	"slices"

	"promptbook/api"
)

// plan is a history with times.
type plan struct {
	*history
	way    int   // how long a letter is under way
	costs  []int // how long each event takes
	begins []int // when each event begins, at the earliest
	end    int   // when the last one ends
}

// planned is the plan of events.
func planned(l []api.Event, c api.Costs) (*plan, api.Errno) {
	h, err := recorded(l)
	if err != api.OK {
		return nil, err
	}
	for _, n := range []int{c.Send, c.Take, c.Tell, c.Offer, c.Set, c.If, c.Way} {
		if n < 0 || n > api.MaxCost {
			return nil, api.ErrArg
		}
	}
	p := &plan{history: h, way: c.Way}
	for _, e := range l {
		p.costs = append(p.costs, costOf(e.Kind, c))
	}
	p.begins = h.longest(func(from, to int) int { return p.costs[from] + p.pause(from, to) })
	for e, begin := range p.begins {
		p.end = max(p.end, begin+p.costs[e])
	}
	return p, api.OK
}

func costOf(kind int, c api.Costs) int {
	switch kind {
	case api.ActSend:
		return c.Send
	case api.ActTake:
		return c.Take
	case api.ActTell:
		return c.Tell
	case api.ActOffer:
		return c.Offer
	case api.ActSet:
		return c.Set
	}
	return c.If
}

// pause is how long it takes from the end of an event to where one can begin to which it leads at once.
func (p *plan) pause(from, to int) int {
	if p.letters[to] == from {
		return p.way
	}
	return 0
}

// finish is when an event ends, if it begins as early as it can.
func (p *plan) finish(e int) int {
	return p.begins[e] + p.costs[e]
}

// slack is for each event how much later it could begin: as much as the longest way from it leaves.
func (p *plan) slack() []int {
	out := p.longestAfter(func(from, to int) int { return p.pause(from, to) + p.costs[to] })
	for e, after := range out {
		out[e] = p.end - p.finish(e) - after
	}
	return out
}

// critical is the first one of the lists of events that make all last so long: they consist of events without slack, each of which lets the next one begin.
func (p *plan) critical() []int {
	slack := p.slack()
	begin := func(e, at int) bool { return slack[e] == 0 && p.begins[e] == at }
	var out []int
	for e := range p.events {
		if begin(e, 0) {
			out = append(out, e)
			break
		}
	}
	for len(out) > 0 && p.finish(out[len(out)-1]) < p.end {
		last := out[len(out)-1]
		next := slices.IndexFunc(p.effects[last], func(f int) bool { return begin(f, p.finish(last)+p.pause(last, f)) })
		out = append(out, p.effects[last][next])
	}
	return out
}
