package raw_test

import (
	"fmt"
	"testing"

	"promptbook/api"
	"promptbook/raw"
)

// pairs reads some, each of two roles.
func pairs(roles ...string) []api.Pair {
	var l []api.Pair
	for i := 0; i < len(roles); i += 2 {
		l = append(l, api.Pair{Name: roles[i], Value: roles[i+1]})
	}
	return l
}

func TestCheckPairs(t *testing.T) { // P2.6, P6.3
	roles := []string{"a", "b", "c"}
	for _, c := range []struct {
		l    []api.Pair
		want api.Errno
	}{
		{nil, api.OK}, {pairs("a", "z"), api.OK}, {pairs("a", "a"), api.OK}, {pairs("a", "b", "b", "a"), api.OK}, {pairs("a", "b", "b", "c", "c", "d"), api.OK},
		{make([]api.Pair, api.MaxRoles+1), api.ErrLarge}, {make([]api.Pair, api.MaxRoles), api.ErrName},
		{pairs("z", "y"), api.ErrName}, {pairs("a", "Z"), api.ErrName}, {pairs("a", "y", "a", "x"), api.ErrTwice}, {pairs("a", "y", "b", "y"), api.ErrTwice},
		{pairs("a", "y", "a", "x", "q", "x"), api.ErrTwice}, {pairs("a", "b"), api.ErrConflict}, {pairs("a", "b", "c", "Z"), api.ErrName}, {pairs("a", "b", "b", "c"), api.ErrConflict},
	} {
		if err := raw.CheckPairs(c.l, roles); err != c.want {
			t.Errorf("%v: got %d, want %d", c.l, err, c.want)
		}
	}
}

func TestSwap(t *testing.T) { // P2.6, P6.3
	swap := raw.Swap(pairs("a", "b", "b", "a", "c", "z"))
	roles := []string{"a", "b", "c", "d", "z", ""}
	for i := range roles {
		swap(&roles[i])
	}
	if got := fmt.Sprintf("%q", roles); got != `["b" "a" "z" "d" "z" ""]` {
		t.Errorf("got %s", got)
	}
}
