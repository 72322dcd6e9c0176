package raw_test

import (
	"fmt"
	"testing"

	"promptbook/api"
	"promptbook/raw"
)

func TestIsValue(t *testing.T) { // P3.1
	for n, want := range map[int]bool{-1: false, 0: true, 1: true, api.MaxValue: true, api.MaxValue + 1: false} {
		if raw.IsValue(n) != want {
			t.Errorf("IsValue(%d) is not %v", n, want)
		}
	}
}

func TestCheckNamed(t *testing.T) { // P3.1, P4.1
	slot := func(name string, n int) api.Slot { return api.Slot{Name: name, Value: n} }
	var many []api.Slot
	for i := range api.MaxSlots + 1 {
		many = append(many, slot(fmt.Sprintf("v%05d", i), 1))
	}
	for _, c := range []struct {
		l    []api.Slot
		want api.Errno
	}{
		{nil, api.OK}, {[]api.Slot{slot("x", 1), slot("y", 1)}, api.OK}, {many[1:], api.OK}, {many, api.ErrLarge},
		{[]api.Slot{slot("X", 2)}, api.ErrName}, {[]api.Slot{slot("x", 2)}, api.ErrArg},
		{[]api.Slot{slot("y", 1), slot("x", 2)}, api.ErrArg}, {[]api.Slot{slot("y", 1), slot("x", 1), slot("X", 1)}, api.ErrOrder}, {[]api.Slot{slot("x", 1), slot("x", 1)}, api.ErrOrder},
	} {
		err := raw.CheckNamed(c.l, raw.SlotName, func(s api.Slot) bool { return s.Value == 1 })
		if err != c.want {
			t.Errorf("%.200v: got %d, want %d", c.l, err, c.want)
		}
	}
}
