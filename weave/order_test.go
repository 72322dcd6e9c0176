package weave_test

import (
	"fmt"
	"slices"
	"testing"

	"promptbook/api"
	"promptbook/weave"
)

// These are events of which one happens before another one by way of a third role, or by an answer.
const (
	roundabout = "a send c 1, a send b 2, b take a x 2, b send c 3, c take b x 3, c take a y 1"
	answered   = "b send a 1, a take b x 1, a send b 2, b take a y 2"
	apart      = "b set x 1, a set x 1, b set y 1, c if 1, a set y 1"
)

func TestBefore(t *testing.T) { // P8.2
	for s, want := range map[string]string{
		example:    "01 02 ",
		roundabout: "01 02 03 04 05 12 13 14 15 23 24 25 34 35 45 ",
		answered:   "01 02 03 12 13 23 ",
		apart:      "02 14 ",
		"a send b 1, c set x 1, b set x 1, b take a x 1, a set x 1, b send c 5, c take b x 5, a set y 1": "03 04 05 06 07 16 23 25 26 35 36 47 56 ",
	} {
		l, got := read(t, s), ""
		for i := range l {
			for k := range l {
				is, err := weave.Before(l, i, k)
				same(t, fmt.Sprint("error of ", i, k, s), err, api.OK)
				if is {
					got += fmt.Sprint(i, k)[:1] + fmt.Sprint(k) + " "
				}
			}
		}
		same(t, s, got, want)
	}
}

func TestWrongIndices(t *testing.T) { // P8.2
	l := read(t, example)
	for _, at := range [][2]int{{-1, 0}, {0, -1}, {3, 0}, {0, 3}, {3, 3}, {-1, -1}, {1 << 62, 0}, {0, -1 << 62}} {
		same(t, fmt.Sprint(at), first(weave.Before(l, at[0], at[1])), first(false, api.ErrArg))
	}
	same(t, "no events", first(weave.Before(nil, 0, 0)), first(false, api.ErrArg))
	same(t, "wrong events", first(weave.Before(l[2:], 5, 5)), first(false, api.ErrNone))
}

func TestArrows(t *testing.T) { // P8.2
	for s, want := range map[string]string{
		"":                      "[]",
		"a set x 1":             "[]",
		example:                 "[{0 1} {0 2}]",
		roundabout:              "[{0 1} {1 2} {2 3} {3 4} {4 5}]",
		answered:                "[{0 1} {1 2} {2 3}]",
		apart:                   "[{0 2} {1 4}]",
		"b set x 1, " + example: "[{0 3} {1 2} {1 3}]",
		"a send b 1, b set x 1, a set x 1, b take a x 1":                                          "[{0 2} {0 3} {1 3}]",
		"b set x 1, a send b 1, a send c 1, b take a x 1, c take a x 1, b send c 2, c take b y 2": "[{0 3} {1 2} {1 3} {2 4} {3 5} {4 6} {5 6}]",
	} {
		got, err := weave.Arrows(read(t, s))
		same(t, s, []any{got, err}, []any{want, api.OK})
	}
}

func TestClocks(t *testing.T) { // P8.2
	for s, want := range map[string]string{
		"":         "[] []",
		example:    "[a b] [[1 0] [2 0] [1 1]]",
		roundabout: "[a b c] [[1 0 0] [2 0 0] [2 1 0] [2 2 0] [2 2 1] [2 2 2]]",
		answered:   "[a b] [[0 1] [1 1] [2 1] [2 2]]",
		apart:      "[a b c] [[0 1 0] [1 0 0] [0 2 0] [0 0 1] [2 0 0]]",
		// A role to which letters are sent, but which does nothing, has no events.
		"b send c 1, b tell a l": "[b] [[1] [2]]",
	} {
		roles, clocks, err := weave.Clocks(read(t, s))
		same(t, s, fmt.Sprint(roles, clocks, err), want+" 0")
	}
}

func TestManyClocks(t *testing.T) { // P8.2
	l := slices.Repeat(read(t, "b set x 1"), api.MaxClocked)
	roles, clocks, err := weave.Clocks(l)
	same(t, "many events", []any{roles, len(clocks), clocks[len(l)-1], err}, []any{[]string{"b"}, len(l), []int{len(l)}, api.OK})
	l = append(l, l[0])
	roles, clocks, err = weave.Clocks(l)
	same(t, "too many events", []any{roles, clocks, err}, []any{[]string{}, [][]int{}, api.ErrLarge})
	_, _, err = weave.Clocks(append(l, read(t, "b send a 1, a take b x 2")...))
	same(t, "too many events, and wrong ones", err, api.ErrConflict)
}

func TestLayers(t *testing.T) { // P8.2
	for s, want := range map[string]string{
		"":         "[]",
		example:    "[[0] [1 2]]",
		roundabout: "[[0] [1] [2] [3] [4] [5]]",
		answered:   "[[0] [1] [2] [3]]",
		apart:      "[[0 1 3] [2 4]]",
		"a set x 1, a set y 1, b set x 1, a send b 1, b take a x 1, b if 1, c if 1": "[[0 2 6] [1] [3] [4] [5]]",
	} {
		same(t, s, first(weave.Layers(read(t, s))), []any{want, api.OK})
	}
}

func TestNormal(t *testing.T) { // P8.3
	for s, want := range map[string]string{
		"":         "",
		example:    example,
		roundabout: roundabout,
		answered:   answered,
		apart:      "a set x 1, a set y 1, b set x 1, b set y 1, c if 1",
		// a goes on as soon as it can, b and c only when it waits or has done all.
		"c set x 1, b set x 1, b send a 1, c send a 2, c set y 1, b set y 1, a set x 1, a take c x 2, a take b y 1, a if 1": "a set x 1, b set x 1, b send a 1, b set y 1, c set x 1, c send a 2, a take c x 2, a take b y 1, a if 1, c set y 1",
		"b send a 1, b set x 1, a take b x 1, c set x 1, a send c 1, b set y 1, c take a x 1":                               "b send a 1, a take b x 1, a send c 1, b set x 1, b set y 1, c set x 1, c take a x 1",
		"ab set x 1, b set x 1, a1 set x 1, a set x 1":                                                                      "a set x 1, a1 set x 1, ab set x 1, b set x 1",
	} {
		got, err := weave.Normal(read(t, s))
		same(t, s, []any{text(got), err}, []any{want, api.OK})
	}
}

func TestAlike(t *testing.T) { // P8.3
	for _, two := range []struct {
		a, b string
		is   bool
	}{
		{"", "", true},
		{example, example, true},
		{example, "a send b 1, b take a y 1, a set x 1", true},
		{apart, "a set x 1, a set y 1, b set x 1, b set y 1, c if 1", true},
		{apart, "a set x 1, a set y 1, b set x 1, b set y 1, c if 0", false},
		{apart, "a set x 1, a set y 1, b set y 1, b set x 1, c if 1", false},
		{apart, "a set x 1, a set y 1, b set x 1, b set y 1", false},
		{"", "a if 1", false},
		{"a if 1", "b if 1", false},
		{"a if 1", "a if 1, a if 1", false},
		{"a if 1, b if 1", "a if 1, c if 1", false},
		{"a send b 1", "a send c 1", false},
		{"a send b 1", "a tell b l", false},
		// The same partners are not asked for: only what each role does.
		{"a send c 1, b send c 1, c take a x 1, c take b x 1", "b send c 1, a send c 1, c take a x 1, c take b x 1", true},
		{"a send c 1, b send c 1, c take a x 1, c take b x 1", "b send c 1, a send c 1, c take b x 1, c take a x 1", false},
	} {
		a, b := read(t, two.a), read(t, two.b)
		same(t, two.a+" and "+two.b, first(weave.Alike(a, b)), first(two.is, api.OK))
		same(t, two.b+" and "+two.a, first(weave.Alike(b, a)), first(two.is, api.OK))
	}
	none, conflict, right := read(t, "b take a x 1"), read(t, "a send b 1, b take a x 2"), read(t, example)
	same(t, "both wrong", first(weave.Alike(none, conflict)), first(false, api.ErrNone))
	same(t, "the first one wrong", first(weave.Alike(none, right)), first(false, api.ErrNone))
	same(t, "the second one wrong", first(weave.Alike(right, conflict)), first(false, api.ErrConflict))
}
