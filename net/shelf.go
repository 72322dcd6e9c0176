package net

// factor is by how much more a number counts in the hash of a list than that beside it.
const factor = 0x9e3779b97f4a7c15

// shelf has things, none of which are equal. Things that are too long to be compared with all others are put there by a hash.
type shelf[T any] struct {
	things []T
	byHash map[uint64][]int // their indices
	same   func(a, b T) bool
}

func newShelf[T any](same func(a, b T) bool) *shelf[T] {
	return &shelf[T]{byHash: map[uint64][]int{}, same: same}
}

// index is that of the thing which is equal to x. If there is none, x is put on the shelf.
func (s *shelf[T]) index(x T, hash uint64) int {
	for _, i := range s.byHash[hash] {
		if s.same(s.things[i], x) {
			return i
		}
	}
	i := len(s.things)
	s.things = append(s.things, x)
	s.byHash[hash] = append(s.byHash[hash], i)
	return i
}
