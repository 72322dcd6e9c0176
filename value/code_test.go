package value_test

import (
	"math"
	"strings"
	"testing"

	"promptbook/api"
	"promptbook/value"
)

// maxWords is how much code is taken.
const maxWords = 10_000

// code reads words: numbers, variables and signs, `?` for OpWhen.
func code(s string) []api.Word {
	signs := map[string]int{"+": api.OpAdd, "-": api.OpSub, "*": api.OpMul, "<": api.OpLess, "==": api.OpSame, "!": api.OpNot, "?": api.OpWhen}
	var c []api.Word
	for _, w := range strings.Fields(s) {
		n := 0
		for _, digit := range w {
			n = n*10 + int(digit-'0')
		}
		switch {
		case signs[w] != 0:
			c = append(c, api.Word{Op: signs[w]})
		case w[0] <= '9':
			c = append(c, api.Word{Op: api.OpNumber, N: n})
		default:
			c = append(c, api.Word{Op: api.OpVar, Name: w})
		}
	}
	return c
}

func TestCodeAndBack(t *testing.T) { // P3.5
	for _, c := range [][2]string{
		{"7", "7"}, {"x", "x"}, {"x + 1", "x 1 +"}, {"1 - x", "1 x -"}, {"x * y < z", "x y * z <"}, {"!x == 0", "x ! 0 =="}, {"x ? y : 5", "x y 5 ?"},
		{"1 + (2 + (3 + 4))", "1 2 3 4 + + +"}, {"1 + 2 + 3 + 4", "1 2 + 3 + 4 +"}, {"(a ? b : c) ? !d : e - 3", "a b c ? d ! e 3 - ?"},
	} {
		e := read(t, c[0])
		words, err := value.Code(e)
		same(t, "Code of "+c[0], []any{words, err}, []any{code(c[1]), api.OK})
		back, err := value.Back(code(c[1]))
		same(t, "Back of "+c[1], []any{back, err}, []any{e, api.OK})
	}
	for want, e := range wrong() {
		c, err := value.Code(e)
		same(t, short(e), []any{c, err}, []any{[]api.Word{}, want})
	}
}

func TestCodeOfRandom(t *testing.T) { // P3.5, and what follows
	d := dice{8}
	for range 1500 {
		e := d.expr(6, "x", "y", "z")
		what := text(t, e)
		c, err := value.Code(e)
		same(t, "Code of "+what, []any{len(c), err}, []any{len(inside(e)), api.OK})
		back, err := value.Back(c)
		same(t, "Back of "+what, []any{back, err}, []any{e, api.OK})
		v, all := d.slots("x", "y", "z")
		n, most, err := value.Exec(c, v)
		same(t, "Exec of "+what, []any{n, most, err}, []any{meant(e, all), inOrder(e), api.OK})
		k, err := value.Stack(e)
		same(t, "Stack of "+what, []any{k, err}, []any{inBestOrder(e), api.OK})
		if k > most {
			t.Errorf("Stack tells %d places of %s, but its code needs %d", k, what, most)
		}
	}
}

// inOrder is how many values wait at most if all Args are evaluated in their order.
func inOrder(e api.Expr) int {
	most := 1
	for i, a := range e.Args {
		most = max(most, i+inOrder(a))
	}
	return most
}

// inBestOrder tries all orders of the Args.
func inBestOrder(e api.Expr) int {
	var needs []int
	for _, a := range e.Args {
		needs = append(needs, inBestOrder(a))
	}
	return max(leastOf(needs, 0), 1)
}

// leastOf is the least that is needed for all that is left, if so many results wait.
func leastOf(needs []int, waiting int) int {
	if len(needs) == 0 {
		return waiting
	}
	least := math.MaxInt
	for i, n := range needs {
		rest := append(append([]int{}, needs[:i]...), needs[i+1:]...)
		least = min(least, max(waiting+n, leastOf(rest, waiting+1)))
	}
	return least
}

func TestExec(t *testing.T) { // P3.5
	for _, c := range []struct {
		code, slots string
		n, most     int
	}{
		{"7", "", 7, 1}, {"x", "", 0, 1}, {"x", "x=5", 5, 1}, {"7 8 -", "", 999, 2}, {"8 7 -", "", 1, 2}, {"7 8 <", "", 1, 2}, {"8 7 <", "", 0, 2}, {"x !", "", 1, 1},
		{"1 2 3 ?", "", 2, 3}, {"0 2 3 ?", "", 3, 3}, {"1 2 3 4 + + +", "", 10, 4}, {"1 2 + 3 + 4 +", "", 10, 2}, {"600 600 + 5 *", "", 0, 2}, {"x y *", "x=31 y=33", 23, 2}, {"x x ==", "x=3", 1, 2},
		{"1 2 + 3 4 + *", "", 21, 3}, {"0 1 2 3 4 ? ? !", "", 0, 5},
	} {
		n, most, err := value.Exec(code(c.code), slots(t, c.slots))
		same(t, c.code+" with "+c.slots, []any{n, most, err}, []any{c.n, c.most, api.OK})
	}
}

func TestStack(t *testing.T) { // P3.5
	for _, c := range []struct {
		expr string
		want int
	}{
		{"7", 1}, {"x", 1}, {"!!x", 1}, {"x + y", 2}, {"!(x + y)", 2}, {"1 + (2 + (3 + 4))", 2}, {"1 + 2 + 3 + 4", 2}, {"(1 + 2) * (3 + 4)", 3}, {"1 * (2 + 3) - (4 - x)", 3},
		{"x ? y : z", 3}, {"x ? y : z + 1", 3}, {"x ? y : z ? 1 : 2", 3}, {"x + 1 ? y + 1 : z + 1", 4}, {"(x ? y : z) + (x + y)", 3}, {"(x ? y : z) + (a ? b : c)", 4}, {"(x + y) ? (x ? y : z) : 1", 3},
		{"(x ? y : z) ? a + b : c", 3}, {"(x ? y : z) ? a + b : c + d", 4}, {"(x ? y : z) ? a ? b : c : 1", 4}, {"(x ? y : z) ? (a ? b : c) : (d ? e : f)", 5},
	} {
		n, err := value.Stack(read(t, c.expr))
		same(t, c.expr, []any{n, err}, []any{c.want, api.OK})
	}
	n, err := value.Stack(full(api.OpAdd, 17, number(1)))
	same(t, "a full sum", []any{n, err}, []any{17, api.OK})
	n, err = value.Stack(full(api.OpWhen, 11, number(1)))
	same(t, "a full choice", []any{n, err}, []any{21, api.OK})
	for want, e := range wrong() {
		n, err := value.Stack(e)
		same(t, short(e), []any{n, err}, []any{0, want})
	}
}

func TestCodeErrors(t *testing.T) { // P3.5, Z4
	one := api.Word{Op: api.OpNumber, N: 1}
	for _, c := range []struct {
		what string
		c    []api.Word
		want api.Errno
	}{
		{"nothing", nil, api.ErrForm},
		{"two values", code("1 2"), api.ErrForm},
		{"too few operators", code("1 2 3 +"), api.ErrForm},
		{"an operator alone", code("+"), api.ErrState},
		{"one operand", code("1 +"), api.ErrState},
		{"no operand", code("!"), api.ErrState},
		{"two operands", code("1 2 ?"), api.ErrState},
		{"operands behind", code("1 + 2 3"), api.ErrState},
		{"operands used", code("1 2 + +"), api.ErrState},
		{"Op 0", []api.Word{one, {}}, api.ErrKind},
		{"Op 10", []api.Word{{Op: 10, N: -1, Name: "X"}}, api.ErrKind},
		{"the least Op", []api.Word{{Op: math.MinInt}}, api.ErrKind},
		{"the greatest Op", []api.Word{{Op: math.MaxInt}}, api.ErrKind},
		{"N of a variable", []api.Word{{Op: api.OpVar, Name: "X", N: 1}}, api.ErrForm},
		{"N of an operator", []api.Word{{Op: api.OpAdd, N: 1}}, api.ErrForm},
		{"N below 0 of an operator", []api.Word{one, {Op: api.OpNot, N: -1}}, api.ErrForm},
		{"Name of a number", []api.Word{{Op: api.OpNumber, N: 1000, Name: "x"}}, api.ErrForm},
		{"Name of an operator", []api.Word{{Op: api.OpNot, Name: "x"}}, api.ErrForm},
		{"N below 0", []api.Word{{Op: api.OpNumber, N: -1}}, api.ErrArg},
		{"N too great", []api.Word{{Op: api.OpNumber, N: 1000}}, api.ErrArg},
		{"the greatest N", []api.Word{{Op: api.OpNumber, N: math.MaxInt}}, api.ErrArg},
		{"no Name", []api.Word{{Op: api.OpVar}}, api.ErrName},
		{"a wrong Name", []api.Word{{Op: api.OpVar, Name: "main"}}, api.ErrName},
		{"a state before a kind", append(code("+"), api.Word{}), api.ErrState},
		{"a kind before a state", append([]api.Word{{}}, code("+")...), api.ErrKind},
		{"a name before a form", []api.Word{{Op: api.OpVar}, {Op: api.OpVar, N: 1}}, api.ErrName},
		{"a name before the end", append(code("1 2"), api.Word{Op: api.OpVar}), api.ErrName},
		{"two values, too deep", code("2 1" + strings.Repeat(" !", api.MaxDepth)), api.ErrForm},
		{"too many words", append(code(strings.Repeat("+ ", maxWords)), api.Word{}), api.ErrLarge},
		{"too many words, none wrong", code("1" + strings.Repeat(" !", maxWords)), api.ErrLarge},
	} {
		e, err := value.Back(c.c)
		same(t, "Back of "+c.what, []any{e, err}, []any{api.Expr{}, c.want})
		for _, v := range [][]api.Slot{nil, slots(t, "x=1000")} {
			n, most, err := value.Exec(c.c, v)
			same(t, "Exec of "+c.what, []any{n, most, err}, []any{0, 0, c.want})
		}
	}
	for want, v := range map[api.Errno][]api.Slot{
		api.ErrOrder: slots(t, "y=1 x=1"),
		api.ErrArg:   slots(t, "x=1000"),
		api.ErrName:  slots(t, "X=1"),
		api.ErrLarge: manySlots(api.MaxSlots + 1),
	} {
		n, most, err := value.Exec(code("5"), v)
		same(t, "Exec with "+short(v), []any{n, most, err}, []any{0, 0, want})
	}
}

func TestCodeAtTheLimits(t *testing.T) { // P3.5: 10,000 words, MaxDepth
	deep := "5" + strings.Repeat(" !", api.MaxDepth-1)
	e, err := value.Back(code(deep))
	same(t, "the depth", []any{e, err}, []any{nots(api.MaxDepth, number(5)), api.OK})
	e, err = value.Back(code(deep + " !"))
	same(t, "too deep", []any{e, err}, []any{api.Expr{}, api.ErrLarge})
	n, most, err := value.Exec(code("0"+strings.Repeat(" !", maxWords-1)), nil)
	same(t, "many OpNots", []any{n, most, err}, []any{1, 1, api.OK})
	n, most, err = value.Exec(code(strings.Repeat("1 ", maxWords/2)+strings.Repeat("+ ", maxWords/2-1)+"!"), nil)
	same(t, "many places", []any{n, most, err}, []any{1, maxWords / 2, api.OK})

	wide := widest(maxWords / 2) // with its sums it has one word less than maxWords
	c, err := value.Code(op(api.OpNot, wide))
	same(t, "many words", []any{len(c), err}, []any{maxWords, api.OK})
	e, err = value.Back(c)
	same(t, "many words", []any{e, err}, []any{op(api.OpNot, wide), api.OK})
	n, _, err = value.Exec(c, nil)
	same(t, "many words", []any{n, err}, []any{1, api.OK})
	c, err = value.Code(op(api.OpNot, op(api.OpNot, wide)))
	same(t, "more words", []any{len(c), err}, []any{maxWords + 1, api.OK})
	e, err = value.Back(c)
	same(t, "more words", []any{e, err}, []any{api.Expr{}, api.ErrLarge})
	n, most, err = value.Exec(c, nil)
	same(t, "more words", []any{n, most, err}, []any{0, 0, api.ErrLarge})
}

// widest is a sum of so many numbers, and no deeper than it has to be.
func widest(leaves int) api.Expr {
	if leaves == 1 {
		return number(1)
	}
	return op(api.OpAdd, widest(leaves/2), widest(leaves-leaves/2))
}
