package value_test

import (
	"fmt"
	"math/big"
	"strings"
	"testing"

	"promptbook/api"
	"promptbook/script"
)

// same compares the texts of values: empty and nil lists have the same one.
func same(t *testing.T, what string, got, want any) {
	t.Helper()
	if fmt.Sprint(got) != fmt.Sprint(want) {
		t.Errorf("%s: got %s, want %s", short(what), short(got), short(want))
	}
}

// short keeps the texts of some tests out of their messages.
func short(x any) string {
	s := fmt.Sprint(x)
	if len(s) > 2000 {
		return s[:2000] + " .."
	}
	return s
}

func number(n int) api.Expr {
	return api.Expr{Op: api.OpNumber, N: n}
}

func variable(s string) api.Expr {
	return api.Expr{Op: api.OpVar, Name: s}
}

func op(k int, l ...api.Expr) api.Expr {
	return api.Expr{Op: k, Args: l}
}

// arities are how many Args each Op has.
var arities = map[int]int{api.OpNumber: 0, api.OpVar: 0, api.OpAdd: 2, api.OpSub: 2, api.OpMul: 2, api.OpLess: 2, api.OpSame: 2, api.OpNot: 1, api.OpWhen: 3}

// nots is an expression of a depth, with e in its midst.
func nots(depth int, e api.Expr) api.Expr {
	for range depth - 1 {
		e = op(api.OpNot, e)
	}
	return e
}

// full has a depth, and as many expressions as that allows.
func full(k, depth int, leaf api.Expr) api.Expr {
	if depth == 1 {
		return leaf
	}
	e := op(k)
	for range arities[k] {
		e.Args = append(e.Args, full(k, depth-1, leaf))
	}
	return e
}

// wrong are expressions that are none, and CheckExpr's errors for them.
func wrong() map[api.Errno]api.Expr {
	return map[api.Errno]api.Expr{
		api.ErrLarge: nots(api.MaxDepth+1, number(0)),
		api.ErrKind:  op(api.OpNot, api.Expr{}),
		api.ErrForm:  op(api.OpAdd, number(1)),
		api.ErrArg:   op(api.OpNot, number(api.MaxValue+1)),
		api.ErrName:  op(api.OpNot, variable("if")),
	}
}

func read(t *testing.T, text string) api.Expr {
	t.Helper()
	e, _, err := script.ReadExpr(text)
	if err != api.OK {
		t.Fatalf("ReadExpr(%q): error %d", short(text), err)
	}
	return e
}

func text(t *testing.T, e api.Expr) string {
	t.Helper()
	s, err := script.ExprText(e)
	if err != api.OK {
		t.Fatalf("ExprText(%s): error %d", short(e), err)
	}
	return s
}

// slots reads variables with their values, as in "x=1 y=2".
func slots(t *testing.T, s string) []api.Slot {
	t.Helper()
	var v []api.Slot
	for _, w := range strings.Fields(s) {
		name, n, _ := strings.Cut(w, "=")
		v = append(v, api.Slot{Name: name})
		if _, err := fmt.Sscan(n, &v[len(v)-1].Value); err != nil {
			t.Fatal(s, err)
		}
	}
	return v
}

// spans reads what variables can be, as in "x=1..5 y=2..2".
func spans(t *testing.T, s string) []api.Span {
	t.Helper()
	var l []api.Span
	for _, w := range strings.Fields(s) {
		name, r, _ := strings.Cut(w, "=")
		span := api.Span{Name: name}
		if _, err := fmt.Sscanf(r, "%d..%d", &span.Low, &span.High); err != nil {
			t.Fatal(s, err)
		}
		l = append(l, span)
	}
	return l
}

// manySlots are n variables with their values.
func manySlots(n int) []api.Slot {
	var v []api.Slot
	for i := range n {
		v = append(v, api.Slot{Name: fmt.Sprintf("v%06d", i), Value: i % (api.MaxValue + 1)})
	}
	return v
}

// manySpans are n variables with their bounds.
func manySpans(n int) []api.Span {
	var l []api.Span
	for _, s := range manySlots(n) {
		l = append(l, api.Span{Name: s.Name, Low: s.Value, High: s.Value})
	}
	return l
}

// meant is the value of an expression by the numbers of mathematics.
func meant(e api.Expr, v map[string]int) int {
	var args []*big.Int
	for _, a := range e.Args {
		args = append(args, big.NewInt(int64(meant(a, v))))
	}
	is := func(b bool) int { return map[bool]int{true: 1}[b] }
	rest := func(n *big.Int) int { return int(n.Mod(n, big.NewInt(1000)).Int64()) } // never below 0
	switch e.Op {
	case api.OpNumber:
		return e.N
	case api.OpVar:
		return v[e.Name]
	case api.OpAdd:
		return rest(new(big.Int).Add(args[0], args[1]))
	case api.OpSub:
		return rest(new(big.Int).Sub(args[0], args[1]))
	case api.OpMul:
		return rest(new(big.Int).Mul(args[0], args[1]))
	case api.OpLess:
		return is(args[0].Cmp(args[1]) < 0)
	case api.OpSame:
		return is(args[0].Cmp(args[1]) == 0)
	case api.OpNot:
		return is(args[0].Sign() == 0)
	}
	if args[0].Sign() > 0 {
		return int(args[1].Int64())
	}
	return int(args[2].Int64())
}

// inside are an expression and all that are in it.
func inside(e api.Expr) []api.Expr {
	l := []api.Expr{e}
	for _, a := range e.Args {
		l = append(l, inside(a)...)
	}
	return l
}

// deepness is how deep an expression is.
func deepness(e api.Expr) int {
	n := 0
	for _, a := range e.Args {
		n = max(n, deepness(a))
	}
	return n + 1
}
