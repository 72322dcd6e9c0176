package value_test

import (
	"reflect"
	"slices"
	"testing"

	"promptbook/api"
	"promptbook/value"
)

func TestSimple(t *testing.T) { // P3.2
	for _, c := range [][2]string{
		// 1
		{"1 + 2", "3"}, {"1 - 2", "999"}, {"40 * 40", "600"}, {"1 < 2", "1"}, {"2 == 3", "0"}, {"!5", "0"}, {"!0", "1"}, {"0 ? 5 : 6", "6"}, {"7 ? 5 : 6", "5"},
		// 2
		{"x + 0", "x"}, {"0 + x", "x"}, {"x - 0", "x"}, {"x * 1", "x"}, {"1 * x", "x"}, {"x * 0", "0"}, {"0 * x", "0"},
		// 3
		{"x - x", "0"}, {"x < x", "0"}, {"x == x", "1"}, {"(x + y) - (x + y)", "0"}, {"x * y == x * y", "1"}, {"!x < !x", "0"}, {"(x + 0) - 1 * x", "0"},
		// 4
		{"x < 0", "0"}, {"999 < x", "0"}, {"x + y < 1 - 1", "0"}, {"0 - 1 < x * y", "0"},
		// 5
		{"3 ? x : y", "x"}, {"0 ? x : y", "y"}, {"x ? y : y", "y"}, {"x ? y + z : y + z", "y + z"}, {"x ? 1 : 1", "1"}, {"x - x ? y : z", "z"}, {"x == x ? y : z", "y"},
		// 6
		{"x == 0", "!x"}, {"0 == x", "!x"}, {"!!!x", "!x"}, {"!!!!x", "!!x"}, {"!!!!!x", "!x"}, {"!!x == 0", "!x"}, {"(x == 0) == 0", "!!x"}, {"0 == (0 == (0 == x))", "!x"}, {"!(!x == 0)", "!x"},
		// all Args first, then the whole
		{"(x + 0) * (3 - 2)", "x"}, {"(x < 0) + (y - y)", "0"}, {"!(x - x)", "1"}, {"(1 + 2) * (x + (5 - 5))", "3 * x"}, {"x ? y + 0 : 1 * y", "y"},
		{"x + (y < y)", "x"}, {"!(0 * x) ? x : y", "x"}, {"x + 0 < 0 + x", "0"}, {"(x ? y : y) == y", "1"}, {"!!x == (1 - 1)", "!x"},
		// nothing else
		{"5", "5"}, {"x", "x"}, {"x + y", "x + y"}, {"x + x", "x + x"}, {"0 - x", "0 - x"}, {"x - 1", "x - 1"}, {"x + 1 + 2", "x + 1 + 2"}, {"x * 2", "x * 2"},
		{"x + y == y + x", "x + y == y + x"}, {"x - y", "x - y"}, {"0 < x", "0 < x"}, {"x < 999", "x < 999"}, {"x < 1", "x < 1"}, {"998 < x", "998 < x"}, {"x == 1", "x == 1"}, {"x == 999", "x == 999"},
		{"!x", "!x"}, {"!!x", "!!x"}, {"!x == 1", "!x == 1"}, {"x ? 1 : 0", "x ? 1 : 0"}, {"x ? y : z", "x ? y : z"}, {"x ? x : y", "x ? x : y"}, {"!x ? y : z", "!x ? y : z"},
		{"x * y - y * x", "x * y - y * x"}, {"x * x", "x * x"}, {"999 * x", "999 * x"}, {"x - 999", "x - 999"}, {"1 - x", "1 - x"}, {"x + y - y", "x + y - y"}, {"x + 999 + 1", "x + 999 + 1"},
	} {
		e, err := value.Simple(read(t, c[0]))
		same(t, c[0], []any{e, err}, []any{read(t, c[1]), api.OK})
	}
	for want, e := range wrong() {
		got, err := value.Simple(e)
		same(t, short(e), []any{got, err}, []any{api.Expr{}, want})
	}
}

// laws are the rules 2 to 6 of P3.2 in their order, but for the first part of rule 5: what stands left becomes what stands right, whatever x and y are.
var laws = [][2]string{
	{"x + 0", "x"}, {"0 + x", "x"}, {"x - 0", "x"}, {"x * 1", "x"}, {"1 * x", "x"}, {"x * 0", "0"}, {"0 * x", "0"},
	{"x - x", "0"}, {"x < x", "0"}, {"x == x", "1"},
	{"x < 0", "0"}, {"999 < x", "0"},
	{"x ? y : y", "y"},
	{"x == 0", "!x"}, {"0 == x", "!x"}, {"!!!x", "!x"},
}

// match finds what the variables of a pattern stand for.
func match(pattern, e api.Expr, of map[string]api.Expr) bool {
	if pattern.Op == api.OpVar {
		known, ok := of[pattern.Name]
		of[pattern.Name] = e
		return !ok || reflect.DeepEqual(known, e)
	}
	if pattern.Op != e.Op || pattern.N != e.N {
		return false
	}
	for i, p := range pattern.Args {
		if !match(p, e.Args[i], of) {
			return false
		}
	}
	return true
}

// fill puts in the place of variables what they stand for.
func fill(e api.Expr, of map[string]api.Expr) api.Expr {
	if e.Op == api.OpVar {
		return of[e.Name]
	}
	out := api.Expr{Op: e.Op, N: e.N}
	for _, a := range e.Args {
		out.Args = append(out.Args, fill(a, of))
	}
	return out
}

// once applies the first rule that does, to the expression itself alone.
func once(t *testing.T, e api.Expr) (api.Expr, bool) {
	isNumber := func(a api.Expr) bool { return a.Op == api.OpNumber }
	if len(e.Args) > 0 && !slices.ContainsFunc(e.Args, func(a api.Expr) bool { return !isNumber(a) }) {
		return number(meant(e, nil)), true
	}
	if e.Op == api.OpWhen && isNumber(e.Args[0]) {
		if e.Args[0].N > 0 {
			return e.Args[1], true
		}
		return e.Args[2], true
	}
	for _, law := range laws {
		of := map[string]api.Expr{}
		if match(read(t, law[0]), e, of) {
			return fill(read(t, law[1]), of), true
		}
	}
	return e, false
}

// simplified does what P3.2 says by the laws.
func simplified(t *testing.T, e api.Expr) api.Expr {
	out := api.Expr{Op: e.Op, N: e.N, Name: e.Name}
	for _, a := range e.Args {
		out.Args = append(out.Args, simplified(t, a))
	}
	for again := true; again; {
		out, again = once(t, out)
	}
	return out
}

func TestSimpleOfRandom(t *testing.T) { // P3.2, and what follows
	d := dice{3}
	for range 1000 {
		e := d.expr(5, "x", "x", "y")
		what := text(t, e)
		s, err := value.Simple(e)
		same(t, what, []any{s, err}, []any{simplified(t, e), api.OK})
		for range 20 {
			v, all := d.slots("x", "y")
			n, _ := value.Eval(s, v)
			same(t, "a value of "+what, n, meant(e, all))
		}
		if len(inside(s)) > len(inside(e)) {
			t.Errorf("%s is greater than %s", text(t, s), what)
		}
		again, _ := value.Simple(s)
		same(t, "again "+what, again, s)
		for _, a := range inside(s) {
			if _, more := once(t, a); more {
				t.Errorf("%s of %s can be simplified", text(t, a), what)
			}
		}
	}
}

func TestSimpleOfLarge(t *testing.T) { // Z1, P3.2
	x := variable("x")
	for _, c := range []struct {
		k, depth int
		want     api.Expr
	}{
		{api.OpSub, 17, number(0)}, {api.OpSame, 17, number(1)}, {api.OpLess, 17, number(0)}, {api.OpWhen, 11, x}, {api.OpNot, 20, op(api.OpNot, x)}, {api.OpNot, 19, nots(3, x)},
	} {
		e, err := value.Simple(full(c.k, c.depth, x))
		same(t, "a full one", []any{e, err}, []any{c.want, api.OK})
	}
	e := full(api.OpAdd, 17, x)
	s, err := value.Simple(e)
	if !reflect.DeepEqual(s, e) || err != api.OK {
		t.Error("a full sum is changed, error", err)
	}
}

func TestPut(t *testing.T) { // P3.2
	for _, c := range [][4]string{
		{"x + x", "x", "!x", "!x + !x"}, {"x", "x", "y", "y"}, {"x", "x", "x + y", "x + y"}, {"y", "x", "5", "y"}, {"5", "x", "y", "5"},
		{"x + y", "x", "y", "y + y"}, {"x + y", "y", "x * y", "x + x * y"}, {"x ? y : !x", "x", "x - 1", "x - 1 ? y : !(x - 1)"},
		{"x + xx", "x", "0", "0 + xx"}, {"x + 0", "x", "0", "0 + 0"}, {"x * (y + x)", "x", "2", "2 * (y + 2)"},
	} {
		e, err := value.Put(read(t, c[0]), c[1], read(t, c[2]))
		same(t, c[0], []any{e, err}, []any{read(t, c[3]), api.OK})
	}
}

func TestPutErrors(t *testing.T) { // P3.2, Z4
	x := variable("x")
	for want, e := range wrong() {
		got, err := value.Put(e, "X", number(1000))
		same(t, "the first", []any{got, err}, []any{api.Expr{}, want})
		got, err = value.Put(x, "X", e)
		same(t, "the second", []any{got, err}, []any{api.Expr{}, want})
		got, err = value.Put(number(1), "x", e)
		same(t, "the second, not used", []any{got, err}, []any{api.Expr{}, want})
	}
	deep := nots(api.MaxDepth, x)
	for _, s := range []string{"", "X", "if", "x-y", "0"} {
		got, err := value.Put(deep, s, deep)
		same(t, s, []any{got, err}, []any{api.Expr{}, api.ErrName})
	}
	for _, c := range []struct {
		e, by api.Expr
		want  api.Errno
	}{
		{deep, number(1), api.OK}, {x, deep, api.OK}, {deep, op(api.OpNot, x), api.ErrLarge}, {nots(2, x), deep, api.ErrLarge}, {nots(10, x), nots(11, x), api.OK}, {nots(11, x), nots(11, x), api.ErrLarge},
		{nots(api.MaxDepth, variable("y")), deep, api.OK}, {op(api.OpAdd, x, nots(api.MaxDepth-1, number(1))), nots(api.MaxDepth-1, x), api.OK}, {op(api.OpAdd, number(1), x), deep, api.ErrLarge},
		{full(api.OpWhen, 11, x), full(api.OpWhen, 11, x), api.ErrLarge},
	} {
		got, err := value.Put(c.e, "x", c.by)
		same(t, "depth", err, c.want)
		if err == api.OK && deepness(got) > api.MaxDepth || err != api.OK && !reflect.DeepEqual(got, api.Expr{}) {
			t.Error("not the result:", short(got))
		}
	}
}

func TestPutOfRandom(t *testing.T) { // P3.2
	d := dice{4}
	for range 1000 {
		e, by := d.expr(5, "x", "y"), d.expr(4, "x", "y", "z")
		got, err := value.Put(e, "x", by)
		v, all := d.slots("x", "y", "z")
		n, _ := value.Eval(got, v)
		all["x"] = meant(by, all)
		same(t, text(t, e)+" with "+text(t, by), []any{n, err}, []any{meant(e, all), api.OK})
	}
}
