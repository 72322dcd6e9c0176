package value_test

import (
	"testing"

	"promptbook/api"
	"promptbook/value"
)

func TestDiffer(t *testing.T) { // P3.3
	for _, c := range []struct {
		a, b string
		n    int
		ok   bool
	}{
		{"x + x", "2 * x", 0, false}, {"x * x", "x + x", 1, true}, {"x", "0", 1, true}, {"x", "x", 0, false}, {"x", "1", 0, true},
		{"x < 999", "1", 999, true}, {"x == 998", "0", 998, true}, {"500 < x", "x < 500", 0, true}, {"x < 500", "!(500 < x)", 500, true},
		{"x * 0", "5 - 5", 0, false}, {"5", "5", 0, false}, {"5", "6", 0, true}, {"2 + 2", "2 * 2", 0, false}, {"0 - 1", "999", 0, false},
		{"0", "y", 1, true}, {"y - y", "0", 0, false}, {"!!x", "x", 2, true}, {"x ? 1 : 0", "!!x", 0, false}, {"0 - x", "999 * x", 0, false}, {"x * x == 1", "x == 1", 249, true},
	} {
		for _, pair := range [][2]string{{c.a, c.b}, {c.b, c.a}} {
			n, ok, err := value.Differ(read(t, pair[0]), read(t, pair[1]))
			same(t, pair[0]+" and "+pair[1], []any{n, ok, err}, []any{c.n, c.ok, api.OK})
		}
	}
}

func TestDifferErrors(t *testing.T) { // P3.3, Z4
	two := read(t, "x + y")
	for want, e := range wrong() {
		n, ok, err := value.Differ(e, number(1000))
		same(t, "the first", []any{n, ok, err}, []any{0, false, want})
		n, ok, err = value.Differ(two, e)
		same(t, "the second", []any{n, ok, err}, []any{0, false, want})
	}
	for _, c := range [][2]string{{"x + y", "1"}, {"1", "x + y"}, {"x", "y"}, {"x + y", "x + y"}, {"x * 0", "y * 0"}, {"x", "xx"}} {
		n, ok, err := value.Differ(read(t, c[0]), read(t, c[1]))
		same(t, c[0]+" and "+c[1], []any{n, ok, err}, []any{0, false, api.ErrLarge})
	}
}

func TestDifferOfRandom(t *testing.T) { // P3.3
	d := dice{5}
	found := map[bool]int{}
	for range 300 {
		a, b := d.expr(4, "x"), d.expr(4, "x")
		if d.roll(3) == 0 {
			b, _ = value.Simple(a)
		}
		want := -1
		for n := 999; n >= 0; n-- {
			v := map[string]int{"x": n}
			if meant(a, v) != meant(b, v) {
				want = n
			}
		}
		n, ok, err := value.Differ(a, b)
		same(t, text(t, a)+" and "+text(t, b), []any{n, ok, err}, []any{max(want, 0), want >= 0, api.OK})
		found[ok]++
	}
	if found[true] < 50 || found[false] < 50 {
		t.Error("not many of both kinds:", found)
	}
}

func TestDifferOfLarge(t *testing.T) { // Z1, P3.3
	e := full(api.OpAdd, 15, variable("x"))
	n, ok, err := value.Differ(e, e)
	same(t, "the same", []any{n, ok, err}, []any{0, false, api.OK})
	n, ok, err = value.Differ(e, op(api.OpMul, variable("x"), number(384))) // 384 = 16384 modulo 1000
	same(t, "16384 x", []any{n, ok, err}, []any{0, false, api.OK})
}
