package value_test

import (
	"promptbook/api"
)

// dice gives always the same numbers, so that a failure can be seen again.
type dice struct{ state uint64 }

func (d *dice) roll(n int) int {
	d.state = d.state*6364136223846793005 + 1442695040888963407
	return int(d.state >> 33 % uint64(n))
}

// number is often one of those of which a rule speaks.
func (d *dice) number() int {
	if d.roll(2) == 0 {
		return []int{0, 0, 1, 2, 500, 998, 999}[d.roll(7)]
	}
	return d.roll(api.MaxValue + 1)
}

// expr is of some of the variables.
func (d *dice) expr(depth int, names ...string) api.Expr {
	if depth <= 1 || d.roll(5) == 0 {
		if d.roll(5) < 2 {
			return number(d.number())
		}
		return variable(names[d.roll(len(names))])
	}
	e := op(api.OpAdd + d.roll(7))
	for range arities[e.Op] {
		if len(e.Args) > 0 && d.roll(6) == 0 {
			e.Args = append(e.Args, e.Args[len(e.Args)-1]) // equal Args, which chance alone seldom gives
		} else {
			e.Args = append(e.Args, d.expr(depth-1, names...))
		}
	}
	return e
}

// slots give values to some of the names.
func (d *dice) slots(names ...string) ([]api.Slot, map[string]int) {
	var v []api.Slot
	all := map[string]int{}
	for _, name := range names {
		if d.roll(4) > 0 {
			n := d.number()
			v = append(v, api.Slot{Name: name, Value: n})
			all[name] = n
		}
	}
	return v, all
}

// span is where a value can be.
func (d *dice) span(name string) api.Span {
	low := d.number()
	return api.Span{Name: name, Low: low, High: low + d.roll(min(api.MaxValue-low, 30)+1)}
}
