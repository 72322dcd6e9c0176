package weave

import "slices"

// pasts are for each event of a short list the set of those that happen before it.
type pasts []set

// pasts are those of all events, of which there are not more than a set can have.
func (h *history) pasts() pasts {
	return h.united(only)
}

// fewest is how many chains all events of rest need, if they go on with, or begin beside, chains whose last events are lasts; these chains count, too. (It is also how many events of rest are concurrent by twos at most, if there are no lasts.)
func (p pasts) fewest(lasts, rest set) int {
	l := newLinks(p, lasts|rest)
	n := l.from.size()
	for ; rest != 0; rest &= rest - 1 {
		if l.link(rest.least(), new(set)) {
			n--
		}
	}
	return n
}

// antichain are the first ones of as many events as can be concurrent by twos: an event is one of them if, with it, there can still be so many.
func (p pasts) antichain() []int {
	rest := below(len(p))
	missing := p.fewest(0, rest)
	var out []int
	for e := range p {
		others := p.besides(e, rest)
		if rest.has(e) && p.fewest(0, others) == missing-1 {
			out = append(out, e)
			rest = others
			missing--
		}
	}
	return out
}

// besides are the events of a set that stand after e, but before which e does not happen.
func (p pasts) besides(e int, of set) set {
	var out set
	for of &^= below(e + 1); of != 0; of &= of - 1 {
		if f := of.least(); !p[f].has(e) {
			out |= only(f)
		}
	}
	return out
}

// chains are the number of the chain of each event, and how many there are. An event gets the least number with which so few chains are still enough.
func (p pasts) chains() ([]int, int) {
	least := p.fewest(0, below(len(p)))
	out := make([]int, len(p))
	var lasts []int // the last event of each chain so far
	for e := range p {
		rest := below(len(p)) &^ below(e+1)
		number := slices.IndexFunc(lasts, func(last int) bool {
			return p[e].has(last) && p.fewest(union(lasts)&^only(last)|only(e), rest) == least
		})
		if number < 0 {
			number = len(lasts)
			lasts = append(lasts, e)
		}
		lasts[number] = e
		out[e] = number
	}
	return out, least
}

func union(l []int) set {
	var out set
	for _, n := range l {
		out |= only(n)
	}
	return out
}

// links say which event comes next in the chain of an event. Each event follows one at most, and is followed by one at most.
type links struct {
	pasts
	from set   // the events that can be followed
	next []int // for each event the one that follows it, or none
}

func newLinks(p pasts, from set) *links {
	return &links{p, from, slices.Repeat([]int{none}, len(p))}
}

// link lets e follow an event before it, and what has followed that one follow another one. It says whether it has found a way to do so; tried are the events that need not be looked at any more.
func (l *links) link(e int, tried *set) bool {
	for {
		open := l.pasts[e] & l.from &^ *tried
		if open == 0 {
			return false
		}
		before := open.least()
		*tried |= only(before)
		if l.next[before] == none || l.link(l.next[before], tried) {
			l.next[before] = e
			return true
		}
	}
}
