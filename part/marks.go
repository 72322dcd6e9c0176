package part

import "math/bits"

// marks are a set of small numbers, 64 to a word. All of one part have the same length.
type marks []uint64

func newMarks(count int) marks {
	return make(marks, (count+63)/64)
}

func (m marks) has(i int) bool {
	return m[i/64]>>(i%64)&1 == 1
}

func (m marks) put(i int) {
	m[i/64] |= 1 << (i % 64)
}

func (m marks) remove(i int) {
	m[i/64] &^= 1 << (i % 64)
}

// join adds all of another set, and says whether any is new.
func (m marks) join(other marks) bool {
	more := false
	for i, w := range other {
		more = more || w&^m[i] != 0
		m[i] |= w
	}
	return more
}

// meet keeps those that are in another set, too.
func (m marks) meet(other marks) {
	for i, w := range other {
		m[i] &= w
	}
}

func (m marks) fill() {
	for i := range m {
		m[i] = ^uint64(0)
	}
}

// each does something with all of them, rising.
func (m marks) each(do func(i int)) {
	for i, w := range m {
		for ; w != 0; w &= w - 1 {
			do(i*64 + bits.TrailingZeros64(w))
		}
	}
}
