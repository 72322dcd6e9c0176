package value_test

import (
	"math"
	"slices"
	"strings"
	"testing"

	"promptbook/api"
	"promptbook/value"
)

func TestCheckSlots(t *testing.T) { // P3.1
	long := strings.Repeat("a", api.MaxName)
	slot := func(name string, n int) api.Slot { return api.Slot{Name: name, Value: n} }
	for _, c := range []struct {
		v    []api.Slot
		want api.Errno
	}{
		{nil, api.OK},
		{[]api.Slot{slot("x", 0)}, api.OK},
		{[]api.Slot{slot("a", 999), slot("a0", 1), slot("a_", 0), slot("aa", 5), slot("b", 5)}, api.OK},
		{[]api.Slot{slot(long, 1)}, api.OK},
		{[]api.Slot{slot(long+"a", 1)}, api.ErrName},
		{[]api.Slot{slot("", 1)}, api.ErrName},
		{[]api.Slot{slot("main", 1)}, api.ErrName},
		{[]api.Slot{slot("X", 1000)}, api.ErrName},
		{[]api.Slot{slot("x", -1)}, api.ErrArg},
		{[]api.Slot{slot("x", 1000)}, api.ErrArg},
		{[]api.Slot{slot("x", math.MinInt)}, api.ErrArg},
		{[]api.Slot{slot("x", math.MaxInt)}, api.ErrArg},
		{[]api.Slot{slot("y", 1), slot("x", 1)}, api.ErrOrder},
		{[]api.Slot{slot("x", 1), slot("x", 1)}, api.ErrOrder},
		{[]api.Slot{slot("a_", 1), slot("a0", 1)}, api.ErrOrder},
		{[]api.Slot{slot("y", 1), slot("x", 1000)}, api.ErrArg},
		{[]api.Slot{slot("y", 1), slot("_", 1000)}, api.ErrName},
		{[]api.Slot{slot("y", 1), slot("x", 1), slot("_", 1)}, api.ErrOrder},
		{[]api.Slot{slot("y", 1000), slot("_", 1)}, api.ErrArg},
		{[]api.Slot{slot("a", 1), slot("b", 1), slot("c", 1000)}, api.ErrArg},
		{[]api.Slot{slot("a", 1), slot("c", 1), slot("b", 1)}, api.ErrOrder},
		{manySlots(api.MaxSlots), api.OK},
		{manySlots(api.MaxSlots + 1), api.ErrLarge},
		{make([]api.Slot, api.MaxSlots+1), api.ErrLarge},
		{make([]api.Slot, api.MaxSlots), api.ErrName},
	} {
		same(t, short(c.v), value.CheckSlots(c.v), c.want)
	}
}

func TestEval(t *testing.T) { // P3.1
	for _, c := range []struct {
		expr, slots string
		want        int
	}{
		{"0", "", 0}, {"999", "", 999}, {"7", "x=1", 7},
		{"x", "", 0}, {"x", "x=999", 999}, {"x", "w=1 x=2 y=3", 2}, {"x", "w=1 y=3", 0}, {"x", "x0=4 xx=5", 0},
		{"999 + 0", "", 999}, {"999 + 1", "", 0}, {"999 + 999", "", 998}, {"x + y", "x=600 y=599", 199},
		{"0 - 1", "", 999}, {"5 - 5", "", 0}, {"0 - 999", "", 1}, {"x - y", "x=5 y=600", 405}, {"999 - 1", "", 998},
		{"999 * 999", "", 1}, {"100 * 10", "", 0}, {"31 * 32", "", 992}, {"x * 0", "x=5", 0}, {"37 * 28", "", 36},
		{"1 < 2", "", 1}, {"2 < 2", "", 0}, {"3 < 2", "", 0}, {"x < 999", "x=998", 1}, {"0 < x", "", 0},
		{"2 == 2", "", 1}, {"2 == 3", "", 0}, {"x == y", "", 1}, {"x == 0", "x=999", 0},
		{"!0", "", 1}, {"!1", "", 0}, {"!999", "", 0}, {"!x", "", 1}, {"!!x", "x=7", 1},
		{"1 ? 2 : 3", "", 2}, {"0 ? 2 : 3", "", 3}, {"999 ? 2 : 3", "", 2}, {"x ? y : z", "y=4 z=5", 5}, {"x ? y : z", "x=2 y=4 z=5", 4},
		{"1 - 2 - 3", "", 996}, {"1 - (2 - 3)", "", 2}, {"2 * (x + 998)", "x=3", 2},
	} {
		n, err := value.Eval(read(t, c.expr), slots(t, c.slots))
		same(t, c.expr+" with "+c.slots, []any{n, err}, []any{c.want, api.OK})
	}
	v := manySlots(api.MaxSlots)
	for _, s := range v {
		n, err := value.Eval(variable(s.Name), v)
		same(t, s.Name, []any{n, err}, []any{s.Value, api.OK})
	}
}

func TestEvalOfAllPairs(t *testing.T) { // P3.1, Z6
	edges := []int{0, 1, 2, 3, 31, 32, 499, 500, 501, 998, 999}
	for k := api.OpAdd; k <= api.OpSame; k++ {
		for _, a := range edges {
			for _, b := range edges {
				e := op(k, number(a), number(b))
				n, err := value.Eval(e, nil)
				same(t, text(t, e), []any{n, err}, []any{meant(e, nil), api.OK})
			}
		}
	}
}

func TestEvalOfRandom(t *testing.T) { // P3.1
	d := dice{1}
	for range 3000 {
		e := d.expr(6, "x", "y", "z")
		v, all := d.slots("x", "y", "z")
		n, err := value.Eval(e, v)
		same(t, text(t, e), []any{n, err}, []any{meant(e, all), api.OK})
	}
}

func TestEvalErrors(t *testing.T) { // P3.1
	unordered := slots(t, "y=1 x=1")
	for want, e := range wrong() {
		n, err := value.Eval(e, unordered)
		same(t, short(e), []any{n, err}, []any{0, want})
	}
	for want, v := range map[api.Errno][]api.Slot{
		api.ErrOrder: unordered,
		api.ErrArg:   slots(t, "x=1000"),
		api.ErrName:  slots(t, "X=1"),
		api.ErrLarge: manySlots(api.MaxSlots + 1),
	} {
		n, err := value.Eval(number(5), v)
		same(t, short(v), []any{n, err}, []any{0, want})
	}
}

func TestVarsAndSize(t *testing.T) { // P3.1
	for _, c := range []struct {
		expr, vars string
		size       int
	}{
		{"5", "", 1}, {"x", "x", 1}, {"!x", "x", 2}, {"x + 1", "x", 3}, {"x + x", "x", 3},
		{"z + y * x", "x y z", 5}, {"b ? a : c", "a b c", 4}, {"!(b ? !a : b + c)", "a b c", 8},
		{"ab + a_ + a0 + a + ab", "a a0 a_ ab", 9}, {"1 ? 2 : 3", "", 4},
	} {
		e := read(t, c.expr)
		names, err := value.Vars(e)
		same(t, "Vars of "+c.expr, []any{names, err}, []any{strings.Fields(c.vars), api.OK})
		n, err := value.Size(e)
		same(t, "Size of "+c.expr, []any{n, err}, []any{c.size, api.OK})
	}
	large := full(api.OpWhen, 11, variable("x"))
	n, err := value.Size(large)
	same(t, "Size", []any{n, err}, []any{88573, api.OK})
	names, err := value.Vars(large)
	same(t, "Vars", []any{names, err}, []any{[]string{"x"}, api.OK})
	for want, e := range wrong() {
		names, err := value.Vars(e)
		same(t, "Vars of "+short(e), []any{names, err}, []any{[]string{}, want})
		n, err := value.Size(e)
		same(t, "Size of "+short(e), []any{n, err}, []any{0, want})
	}
}

func TestVarsAndSizeOfRandom(t *testing.T) { // P3.1
	d := dice{2}
	for range 500 {
		e := d.expr(5, "c", "b", "a", "d")
		var want []string
		for _, a := range inside(e) {
			if a.Op == api.OpVar && !slices.Contains(want, a.Name) {
				want = append(want, a.Name)
			}
		}
		slices.Sort(want)
		names, _ := value.Vars(e)
		same(t, "Vars of "+text(t, e), names, want)
		n, _ := value.Size(e)
		same(t, "Size of "+text(t, e), n, len(inside(e)))
	}
}
