package weave_test

import (
	"fmt"
	"slices"
	"testing"

	"promptbook/api"
	"promptbook/weave"
)

func TestChainsAndAntichains(t *testing.T) { // P8.5
	for s, want := range map[string]string{
		"":                         "[] [] 0",
		"a set x 1":                "[0] [0] 1",
		example:                    "[1 2] [0 0 1] 2",
		roundabout:                 "[0] [0 0 0 0 0 0] 1",
		answered:                   "[0] [0 0 0 0] 1",
		apart:                      "[0 1 3] [0 1 0 2 1] 3",
		"a set x 1, a set y 1":     "[0] [0 0] 1",
		"b set x 1, a set x 1":     "[0 1] [0 1] 2",
		"a send b 1, b take a x 1": "[0] [0 0] 1",
		// 0 is concurrent with 1 alone, 1 and 2 are no better: of the greatest sets the first one.
		"a set x 1, b send a 1, a take b x 1, b set x 1": "[0 1] [0 1 0 1] 2",
		// The first event of the greatest set is not the first event.
		"a send b 1, a set x 1, b take a x 1, a set y 1, b set y 1": "[1 2] [0 0 1 0 1] 2",
		// If 2 went on with the chain of 0, 3 would need a chain of its own.
		"a send b 1, b set x 1, b take a x 1, a set x 1":                                       "[0 1] [0 1 1 0] 2",
		"a send b 1, b set x 1, c set x 1, b take a x 1, c send a 1, a take c x 1":             "[0 1 2] [0 1 2 0 2 2] 3",
		"a send b 1, a send c 2, c send d 3, b take a x 1, d take c x 3, c take a y 2, d if 1": "[1 2 3] [0 0 1 2 1 0 1] 3",
	} {
		l := read(t, s)
		list, err := weave.Antichain(l)
		numbers, n, otherErr := weave.Chains(l)
		same(t, s, fmt.Sprint(list, numbers, n, err, otherErr), want+" 0 0")
	}
}

func TestWidest(t *testing.T) { // P8.5
	var apart []api.Event
	for i := range api.MaxWide {
		apart = append(apart, api.Event{Role: fmt.Sprintf("r%02d", i), Kind: api.ActIf})
	}
	var indices, zeros []int
	for i := range apart {
		indices, zeros = append(indices, i), append(zeros, 0)
	}
	same(t, "all concurrent", first(weave.Antichain(apart)), first(indices, api.OK))
	numbers, n, err := weave.Chains(apart)
	same(t, "chains of all concurrent", []any{numbers, n, err}, []any{indices, api.MaxWide, api.OK})
	row := slices.Repeat(apart[:1], api.MaxWide)
	same(t, "one after the other", first(weave.Antichain(row)), first([]int{0}, api.OK))
	numbers, n, err = weave.Chains(row)
	same(t, "one chain", []any{numbers, n, err}, []any{zeros, 1, api.OK})
	many := append(row, row[0])
	same(t, "too many", first(weave.Antichain(many)), first([]int{}, api.ErrLarge))
	numbers, n, err = weave.Chains(many)
	same(t, "too many for chains", []any{numbers, n, err}, []any{[]int{}, 0, api.ErrLarge})
	wrong := append(many, read(t, "a send b 1, b take a x 2")...)
	same(t, "too many, and wrong", first(weave.Antichain(wrong)), first([]int{}, api.ErrConflict))
	_, _, err = weave.Chains(wrong)
	same(t, "too many, and wrong, for chains", err, api.ErrConflict)
}
