package net

import "promptbook/api"

// spot is a place in a list of acts, and the rest below the list. It is empty at the end.
type spot struct {
	list  *list
	at    int
	below *rest
}

// rest is what a role has still to do, nil at the end: the acts from a spot on. They are not copied into one list, because a Body that calls its own Local before its end would make lists that hardly any memory holds.
type rest struct {
	spot
	hash   uint64
	number int // from 1 on
}

// rest is what is done from a place of a list on, and then what is below. For a role, rests with equal acts are the same one, in whatever lists the acts are.
func (r *role) rest(l *list, at int, below *rest) *rest {
	if at == len(l.acts) {
		return below
	}
	hash := l.hashes[at]
	if below != nil {
		hash += l.powers[at] * below.hash
	}
	i := r.rests.index(&rest{spot: spot{l, at, below}, hash: hash, number: len(r.rests.things) + 1}, hash)
	return r.rests.things[i]
}

// behind is what is left of a rest when its first act has been done.
func (r *role) behind(x *rest) *rest {
	return r.rest(x.list, x.at+1, x.below)
}

// hash finds the hashes of a list.
func (l *list) hash() {
	n := len(l.acts)
	l.hashes, l.powers = make([]uint64, n+1), make([]uint64, n+1)
	l.powers[n] = 1
	for i := n - 1; i >= 0; i-- {
		l.hashes[i] = uint64(l.acts[i].number) + factor*l.hashes[i+1]
		l.powers[i] = factor * l.powers[i+1]
	}
}

// act is the first act of what is left.
func (s spot) act() *act {
	return s.list.acts[s.at]
}

func (s spot) next() spot {
	s.at++
	switch {
	case s.at < len(s.list.acts):
		return s
	case s.below != nil:
		return s.below.spot
	}
	return spot{}
}

// sameActs compares all acts of two rests.
func sameActs(a, b *rest) bool {
	x, y := a.spot, b.spot
	for x != y && x.list != nil && y.list != nil {
		if x.act().number != y.act().number {
			return false
		}
		x, y = x.next(), y.next()
	}
	return x == y
}

// written is a rest as api has it.
func (r *rest) written() []api.Act {
	var out []api.Act
	if r == nil {
		return out
	}
	for s := r.spot; s.list != nil; s = s.next() {
		out = append(out, s.act().written())
	}
	return out
}
