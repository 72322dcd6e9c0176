package net

import (
	"slices"

	"promptbook/api"
)

// ends are the roles at the ends of a queue.
type ends struct{ from, to string }

// tape is all letters that are put into a queue, with those that have been taken from it.
type tape struct {
	ends
	number         int // from 0 on
	putter, taker  int // nobody if there is no part of this role
	letters        []api.Letter
	hashes, powers []uint64 // of the first letters, and of factor, by how many there are
}

// queue is the letters of a tape that wait in a state.
type queue struct {
	*tape
	taken, put int // how many have been until then
}

func (n *network) tape(from, to string) *tape {
	at := ends{from, to}
	t, known := n.where[at]
	if !known {
		t = &tape{ends: at, number: len(n.tapes), putter: n.indexOf(from), taker: n.indexOf(to), hashes: []uint64{0}, powers: []uint64{1}}
		n.tapes = append(n.tapes, t)
		n.where[at] = t
	}
	return t
}

// put puts a letter on a tape.
func (n *network) put(t *tape, l api.Letter) {
	last := len(t.letters)
	t.letters = append(t.letters, l)
	t.hashes = append(t.hashes, factor*t.hashes[last]+n.letter(l))
	t.powers = append(t.powers, factor*t.powers[last])
}

// letter is what a letter counts in hashes.
func (n *network) letter(l api.Letter) uint64 {
	if l.Label == "" {
		return uint64(l.Value + 1)
	}
	return uint64(api.MaxValue + 1 + n.Word(l.Label))
}

// queue is what waits on a tape in a state.
func (n *network) queue(s state, t *tape) queue {
	return queue{t, n.moved(s, t.taker, t), n.moved(s, t.putter, t)}
}

// moved is how many letters a role has put on a tape, or taken from it.
func (n *network) moved(s state, who int, t *tape) int {
	if who == nobody {
		return 0
	}
	return n.moment(s, who).moved(t)
}

// waiting are the letters of a queue.
func (q queue) waiting() []api.Letter {
	return q.letters[q.taken:q.put]
}

// hash is the same for equal queues on any tapes.
func (q queue) hash() uint64 {
	return q.hashes[q.put] - q.powers[q.put-q.taken]*q.hashes[q.taken]
}

func sameLetters(a, b queue) bool {
	return slices.Equal(a.waiting(), b.waiting())
}

// content is the number of what is in a queue, 0 if it is empty.
func (n *network) content(q queue) int {
	if q.taken == q.put {
		return 0
	}
	return n.contents.index(q, q.hash()) + 1
}
