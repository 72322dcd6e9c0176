package weave

import "math/bits"

// setSize is how many numbers can be in a set.
const setSize = 64

// set is one of numbers from 0 to setSize - 1.
type set uint64

// only is the set of one number.
func only(n int) set {
	return 1 << n
}

// below is the set of all numbers that are less than n.
func below(n int) set {
	return only(n) - 1
}

func (s set) has(n int) bool {
	return s&only(n) != 0
}

func (s set) size() int {
	return bits.OnesCount64(uint64(s))
}

// least is the least number in a set that is not empty.
func (s set) least() int {
	return bits.TrailingZeros64(uint64(s))
}
