package value_test

import (
	"math"
	"testing"

	"promptbook/api"
	"promptbook/value"
)

func TestBounds(t *testing.T) { // P3.4
	for _, c := range []struct {
		expr, spans string
		low, high   int
	}{
		{"7", "", 7, 7}, {"x", "", 0, 999}, {"x", "x=3..5", 3, 5}, {"x", "w=1..2 x=3..3 y=5..6", 3, 3}, {"x", "w=1..2 y=5..6", 0, 999}, {"x", "x0=1..2 xx=1..2", 0, 999},
		// sums
		{"x + y", "x=0..4 y=5..9", 5, 13}, {"x + y", "x=0..500 y=0..499", 0, 999}, {"x + y", "x=0..500 y=1..500", 0, 999}, {"x + y", "x=7..500 y=8..499", 15, 999},
		{"x + y", "x=500..600 y=500..700", 0, 300}, {"x + y", "x=500..600 y=499..700", 0, 999}, {"x + y", "x=999..999 y=1..999", 0, 998}, {"x + y", "x=600..700 y=700..800", 300, 500}, {"x + 1", "", 0, 999}, {"x + 0", "x=4..999", 4, 999},
		// differences
		{"x - y", "x=0..4 y=5..9", 991, 999}, {"y - x", "x=0..4 y=5..9", 1, 9}, {"x - y", "x=5..9 y=5..9", 0, 999}, {"x - y", "x=9..20 y=5..9", 0, 15}, {"x - y", "x=9..20 y=5..10", 0, 999},
		{"x - y", "x=0..4 y=4..9", 0, 999}, {"x - y", "x=0..0 y=999..999", 1, 1}, {"x - y", "x=0..3 y=4..999", 1, 999}, {"x - x", "x=5..6", 0, 999}, {"x - 0", "x=5..6", 5, 6}, {"0 - x", "x=5..6", 994, 995},
		// products
		{"x * y", "x=0..4 y=5..9", 0, 36}, {"x * y", "x=2..3 y=4..333", 8, 999}, {"x * y", "x=2..4 y=4..250", 0, 999}, {"x * y", "x=100..100 y=10..10", 0, 999}, {"x * 0", "", 0, 0}, {"x * 1", "", 0, 999}, {"x * 2", "x=499..499", 998, 998},
		// less
		{"x < y", "x=0..4 y=5..9", 1, 1}, {"x < y", "x=0..5 y=5..9", 0, 1}, {"x < y", "x=5..9 y=0..5", 0, 0}, {"x < y", "x=4..9 y=0..5", 0, 1}, {"x < y", "x=5..5 y=5..5", 0, 0}, {"x < x", "x=4..5", 0, 1}, {"x < 0", "", 0, 0}, {"999 < x", "", 0, 0}, {"x < 999", "x=0..998", 1, 1},
		// same
		{"x == y", "x=0..4 y=5..9", 0, 0}, {"x == y", "x=5..9 y=0..4", 0, 0}, {"x == y", "x=0..5 y=5..9", 0, 1}, {"x == y", "x=5..9 y=0..5", 0, 1}, {"x == y", "x=5..5 y=5..5", 1, 1}, {"x == y", "x=5..6 y=5..6", 0, 1}, {"x == y", "x=5..5 y=5..6", 0, 1}, {"x == y", "x=4..5 y=5..5", 0, 1},
		// not
		{"!x", "x=1..999", 0, 0}, {"!x", "x=0..0", 1, 1}, {"!x", "x=0..1", 0, 1}, {"!x", "", 0, 1},
		// when
		{"x ? y : z", "x=1..2 y=3..4 z=8..9", 3, 4}, {"x ? y : z", "x=0..0 y=3..4 z=8..9", 8, 9}, {"x ? y : z", "x=0..1 y=3..4 z=8..9", 3, 9}, {"x ? z : y", "x=0..1 y=3..4 z=8..9", 3, 9}, {"x ? y : z", "y=3..10 z=4..9", 3, 10}, {"x ? 3 : 8", "x=0..4", 3, 8},
		// the Args' Args
		{"(x + y) * (x < y)", "x=0..4 y=5..9", 5, 13}, {"!(x - y) + (x == y)", "x=0..4 y=5..9", 0, 0}, {"(x < y ? 10 : z) + 990", "x=0..4 y=5..9", 0, 0}, {"(x + 999) + 999", "x=2..2", 0, 0},
	} {
		low, high, err := value.Bounds(read(t, c.expr), spans(t, c.spans))
		same(t, c.expr+" with "+c.spans, []any{low, high, err}, []any{c.low, c.high, api.OK})
	}
	l := manySpans(api.MaxSlots)
	for _, s := range l {
		low, high, err := value.Bounds(variable(s.Name), l)
		same(t, s.Name, []any{low, high, err}, []any{s.Low, s.High, api.OK})
	}
}

func TestBoundsErrors(t *testing.T) { // P3.4, Z4
	span := func(name string, low, high int) api.Span { return api.Span{Name: name, Low: low, High: high} }
	unordered := spans(t, "y=1..1 x=1..1")
	for want, e := range wrong() {
		low, high, err := value.Bounds(e, unordered)
		same(t, short(e), []any{low, high, err}, []any{0, 0, want})
	}
	for _, c := range []struct {
		s    []api.Span
		want api.Errno
	}{
		{[]api.Span{span("x", 0, 999)}, api.OK},
		{[]api.Span{span("x", 5, 5)}, api.OK},
		{[]api.Span{span("x", 999, 999)}, api.OK},
		{[]api.Span{span("x", 0, 0), span("y", 0, 0)}, api.OK},
		{[]api.Span{span("x", 5, 4)}, api.ErrArg},
		{[]api.Span{span("x", -1, 4)}, api.ErrArg},
		{[]api.Span{span("x", 0, 1000)}, api.ErrArg},
		{[]api.Span{span("x", 1000, 1000)}, api.ErrArg},
		{[]api.Span{span("x", -2, -1)}, api.ErrArg},
		{[]api.Span{span("x", math.MinInt, math.MaxInt)}, api.ErrArg},
		{[]api.Span{span("x", math.MaxInt, math.MinInt)}, api.ErrArg},
		{[]api.Span{span("", 0, 1)}, api.ErrName},
		{[]api.Span{span("else", 5, 4)}, api.ErrName},
		{[]api.Span{span("x", 0, 1), span("x", 0, 1)}, api.ErrOrder},
		{[]api.Span{span("y", 0, 1), span("x", 0, 1)}, api.ErrOrder},
		{[]api.Span{span("y", 0, 1), span("x", 5, 4)}, api.ErrArg},
		{[]api.Span{span("y", 0, 1), span("_", 5, 4)}, api.ErrName},
		{[]api.Span{span("y", 5, 4), span("_", 0, 1)}, api.ErrArg},
		{[]api.Span{span("y", 0, 1), span("x", 0, 1), span("_", 0, 1)}, api.ErrOrder},
		{manySpans(api.MaxSlots), api.OK},
		{manySpans(api.MaxSlots + 1), api.ErrLarge},
		{make([]api.Span, api.MaxSlots+1), api.ErrLarge},
		{make([]api.Span, api.MaxSlots), api.ErrName},
	} {
		low, high, err := value.Bounds(number(7), c.s)
		want := []any{7, 7, api.OK}
		if c.want != api.OK {
			want = []any{0, 0, c.want}
		}
		same(t, short(c.s), []any{low, high, err}, want)
	}
}

func TestBoundsOfRandom(t *testing.T) { // P3.4: values lie within bounds
	d := dice{6}
	for range 1500 {
		e := d.expr(5, "x", "y", "z")
		var l []api.Span
		for _, name := range []string{"x", "y"} {
			if d.roll(5) > 0 {
				l = append(l, d.span(name))
			}
		}
		low, high, err := value.Bounds(e, l)
		same(t, text(t, e), []any{0 <= low, low <= high, high <= 999, err}, []any{true, true, true, api.OK})
		for range 40 {
			v := map[string]int{"x": d.number(), "y": d.number(), "z": d.number()}
			for _, s := range l {
				v[s.Name] = s.Low + d.roll(s.High-s.Low+1)
			}
			if n := meant(e, v); n < low || n > high {
				t.Errorf("%s is %d with %v, but from %d to %d with %v", text(t, e), n, v, low, high, l)
			}
		}
	}
}

// TestBoundsAreTight compares with all pairs of values: where the rules say no more than 0 to 999 or 0 to 1, they can be less tight.
func TestBoundsAreTight(t *testing.T) { // P3.4
	d := dice{7}
	for k := api.OpAdd; k <= api.OpSame; k++ {
		for range 100 {
			x, y := d.span("x"), d.span("y")
			low, high, _ := value.Bounds(op(k, variable("x"), variable("y")), []api.Span{x, y})
			if low == 0 && (high == 999 || high == 1) {
				continue
			}
			least, greatest := 999, 0
			for a := x.Low; a <= x.High; a++ {
				for b := y.Low; b <= y.High; b++ {
					n := meant(op(k, number(a), number(b)), nil)
					least, greatest = min(least, n), max(greatest, n)
				}
			}
			same(t, short([]any{k, x, y}), []int{low, high}, []int{least, greatest})
		}
	}
}
