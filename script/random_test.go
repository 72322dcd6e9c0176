package script_test

import (
	"strings"
	"testing"

	"promptbook/api"
	"promptbook/script"
)

// dice gives always the same numbers, so that a failure can be seen again.
type dice struct{ state uint64 }

func (d *dice) roll(n int) int {
	d.state = d.state*6364136223846793005 + 1442695040888963407
	return int(d.state >> 33 % uint64(n))
}

func (d *dice) name() string {
	return []string{"a", "b", "c", "x1", "y_", "price"}[d.roll(6)]
}

func (d *dice) names() []string {
	var l []string
	for range 1 + d.roll(3) {
		l = append(l, d.name())
	}
	return l
}

func (d *dice) expr(depth int) api.Expr {
	if depth <= 1 || d.roll(4) == 0 {
		if d.roll(2) == 0 {
			return number(d.roll(api.MaxValue + 1))
		}
		return variable(d.name())
	}
	k := api.OpAdd + d.roll(7)
	var l []api.Expr
	for range arities[k] {
		l = append(l, d.expr(depth-1))
	}
	return op(k, l...)
}

func (d *dice) steps(depth int) []api.Step {
	var l []api.Step
	for range d.roll(4) {
		l = append(l, d.step(depth))
	}
	return l
}

func (d *dice) step(depth int) api.Step {
	switch k := d.roll(5); {
	case k == 0:
		return send(d.name(), d.expr(3), d.name(), d.name())
	case k == 1:
		return tell(d.name(), d.name(), d.name())
	case k == 2:
		return set(d.name(), d.name(), d.expr(3))
	case k == 3 && depth > 1:
		return choice(d.name(), d.expr(3), d.steps(depth-1), d.steps(depth-1))
	}
	return call(d.name(), d.names()...)
}

func (d *dice) play() api.Play {
	var p api.Play
	for _, key := range []string{"p", "q", "r"}[:d.roll(4)] {
		p.Procs = append(p.Procs, api.Proc{Key: key, Params: roles(1 + d.roll(3)), Body: d.steps(3)})
	}
	p.Main = d.steps(4)
	return p
}

// scatter puts blanks, tabs, line feeds and comments between the words of a text.
func (d *dice) scatter(s string) string {
	var b strings.Builder
	for _, w := range strings.FieldsFunc(s, func(r rune) bool { return r == ' ' || r == '\n' }) {
		b.WriteString(w)
		b.WriteString([]string{" ", "\t", "\n", "  \n\t", "#\n", "# main { \"\r\xff\n", "\n#x#y\n"}[d.roll(7)])
	}
	return b.String()
}

func TestRoundTrips(t *testing.T) { // P1.4, P1.5, Z10
	d := dice{1}
	for range 2000 {
		p := d.play()
		s := text(t, p)
		same(t, s, read(t, s), p)
		same(t, s, read(t, d.scatter(s)), p)
		steps, _, _ := script.Count(p)
		for n := range steps {
			k, err := script.Line(p, n)
			same(t, "Line", err, api.OK)
			q, err := script.Without(p, n)
			same(t, "Without", err, api.OK)
			lines, fewer := strings.Split(s, "\n"), strings.Split(text(t, q), "\n")
			same(t, "the lines before the step", fewer[:k], lines[:k])
			gone := len(lines) - len(fewer)
			same(t, "the lines behind the step", fewer[k:], lines[k+gone:])
		}
	}
}
