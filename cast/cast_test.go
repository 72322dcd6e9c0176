package cast_test

import (
	"testing"

	"promptbook/cast"
)

func TestCast(t *testing.T) { // P4.2, P6.4
	var main cast.Cast
	p := main.Called([]string{"x", "y"}, []string{"b", "x"})
	q := p.Called([]string{"y", "x", "a"}, []string{"x", "y", "c"})
	for _, c := range []struct {
		in         cast.Cast
		name, want string
	}{
		{main, "a", "a"}, {main, "", ""}, {p, "x", "b"}, {p, "y", "x"}, {p, "a", "a"}, {p, "", ""},
		{q, "y", "b"}, {q, "x", "x"}, {q, "a", "c"}, {q, "b", "b"},
	} {
		if got := c.in.Role(c.name); got != c.want {
			t.Errorf("%v: %q is %q, not %q", c.in, c.name, got, c.want)
		}
	}
}
