package script_test

import (
	"strings"
	"testing"

	"promptbook/api"
	"promptbook/script"
)

func TestExprText(t *testing.T) { // P1.4
	a, b, c, d := variable("a"), variable("b"), variable("c"), variable("d")
	for _, k := range []struct {
		e    api.Expr
		want string
	}{
		{number(0), "0"}, {number(999), "999"}, {number(10), "10"}, {a, "a"},
		{op(api.OpAdd, a, b), "a + b"}, {op(api.OpSub, a, b), "a - b"}, {op(api.OpMul, a, b), "a * b"},
		{op(api.OpLess, a, b), "a < b"}, {op(api.OpSame, a, b), "a == b"}, {op(api.OpNot, a), "!a"}, {op(api.OpWhen, a, b, c), "a ? b : c"},
		{op(api.OpNot, op(api.OpNot, number(1))), "!!1"},
		{op(api.OpNot, op(api.OpMul, a, b)), "!(a * b)"},
		{op(api.OpMul, op(api.OpNot, a), op(api.OpNot, b)), "!a * !b"},
		{op(api.OpMul, op(api.OpMul, a, b), c), "a * b * c"},
		{op(api.OpMul, a, op(api.OpMul, b, c)), "a * (b * c)"},
		{op(api.OpMul, op(api.OpAdd, a, b), op(api.OpSub, c, d)), "(a + b) * (c - d)"},
		{op(api.OpAdd, op(api.OpMul, a, b), op(api.OpMul, c, d)), "a * b + c * d"},
		{op(api.OpAdd, op(api.OpSub, a, b), c), "a - b + c"},
		{op(api.OpAdd, a, op(api.OpSub, b, c)), "a + (b - c)"},
		{op(api.OpSub, a, op(api.OpAdd, b, c)), "a - (b + c)"},
		{op(api.OpSub, op(api.OpAdd, a, b), c), "a + b - c"},
		{op(api.OpLess, op(api.OpAdd, a, b), op(api.OpSub, c, d)), "a + b < c - d"},
		{op(api.OpAdd, op(api.OpLess, a, b), c), "(a < b) + c"},
		{op(api.OpAdd, a, op(api.OpSame, b, c)), "a + (b == c)"},
		{op(api.OpLess, op(api.OpLess, a, b), c), "(a < b) < c"},
		{op(api.OpSame, a, op(api.OpLess, b, c)), "a == (b < c)"},
		{op(api.OpSame, op(api.OpSame, a, b), op(api.OpSame, c, d)), "(a == b) == (c == d)"},
		{op(api.OpWhen, op(api.OpLess, a, b), op(api.OpSame, a, b), op(api.OpLess, c, d)), "a < b ? a == b : c < d"},
		{op(api.OpWhen, op(api.OpWhen, a, b, c), d, a), "(a ? b : c) ? d : a"},
		{op(api.OpWhen, a, op(api.OpWhen, b, c, d), a), "a ? b ? c : d : a"},
		{op(api.OpWhen, a, b, op(api.OpWhen, b, c, d)), "a ? b : b ? c : d"},
		{op(api.OpNot, op(api.OpWhen, a, b, c)), "!(a ? b : c)"},
		{op(api.OpMul, a, op(api.OpWhen, b, c, d)), "a * (b ? c : d)"},
		{op(api.OpAdd, op(api.OpWhen, a, b, c), d), "(a ? b : c) + d"},
		{op(api.OpSame, a, op(api.OpWhen, b, c, d)), "a == (b ? c : d)"},
		{op(api.OpLess, op(api.OpNot, op(api.OpLess, a, b)), op(api.OpMul, c, op(api.OpAdd, a, b))), "!(a < b) < c * (a + b)"},
	} {
		same(t, k.want, exprText(t, k.e), k.want)
		same(t, k.want, readExpr(t, k.want), k.e)
	}
}

// without leaves out the pair of parentheses that begins at an index.
func without(s string, open int) string {
	depth := 0
	for i := open; ; i++ {
		switch s[i] {
		case '(':
			depth++
		case ')':
			depth--
		}
		if depth == 0 {
			return s[:open] + s[open+1:i] + s[i+1:]
		}
	}
}

func TestFewestParentheses(t *testing.T) { // P1.4, P1.5
	d := dice{3}
	for range 5000 {
		e := d.expr(6)
		s := exprText(t, e)
		same(t, s, readExpr(t, s), e)
		for i := range len(s) {
			if s[i] != '(' {
				continue
			}
			x, _, err := script.ReadExpr(without(s, i))
			if err == api.OK && exprText(t, x) == s {
				t.Fatalf("%s: the parentheses at %d are not needed", s, i)
			}
		}
	}
}

func TestText(t *testing.T) { // P1.4
	for _, c := range [][2]string{
		{"main{}", "main {\n}\n"},
		{"main { a.x+(1*2) -> b.y; }", "main {\n  a.x + 1 * 2 -> b.y;\n}\n"},
		{"proc p(a){}proc q(a,b,c){}main{}", "proc p(a) {\n}\nproc q(a, b, c) {\n}\nmain {\n}\n"},
		{"main{a->b[l];a.x:=!y;p(a,b);p(a);}", "main {\n  a -> b [l];\n  a.x := !y;\n  p(a, b);\n  p(a);\n}\n"},
		{"main{if a.x{}else{}}", "main {\n  if a.x {\n  } else {\n  }\n}\n"},
		{"main{if a.(x?y:z){if b.1{a->b[l];}else{}}else{p(a);}}", "main {\n  if a.x ? y : z {\n    if b.1 {\n      a -> b [l];\n    } else {\n    }\n  } else {\n    p(a);\n  }\n}\n"},
		{shop, shop},
	} {
		same(t, c[0], text(t, read(t, c[0])), c[1])
	}
	s, err := script.Text(api.Play{})
	same(t, "the empty play", []any{s, err}, []any{"main {\n}\n", api.OK})
	deepest := text(t, api.Play{Main: choices(api.MaxDepth, tell("a", "b", "l"))})
	same(t, "the deepest step", strings.Contains(deepest, "\n"+strings.Repeat("  ", api.MaxDepth)+"a -> b [l];\n"), true)
}

// wide is an expression with so many bytes, from 40,955 on.
func wide(t *testing.T, bytes int) api.Expr {
	leaves := 8192
	rest := bytes - 40_955 // of the leaves, of 3 bytes for each operator, and of parentheses
	var l []api.Expr
	for range leaves {
		more := min(rest, api.MaxName-1)
		rest -= more
		l = append(l, variable("a"+strings.Repeat("b", more)))
	}
	for len(l) > 1 {
		var next []api.Expr
		for i := 0; i < len(l); i += 2 {
			next = append(next, op(api.OpAdd, l[i], l[i+1]))
		}
		l = next
	}
	if rest > 0 {
		t.Fatal("too wide:", bytes)
	}
	return l[0]
}

func TestLongestExpr(t *testing.T) { // P1.4, P1.5
	s := exprText(t, wide(t, api.MaxText))
	same(t, "the longest text", len(s), api.MaxText)
	same(t, "read", exprText(t, readExpr(t, s)) == s, true)
	for _, n := range []int{api.MaxText + 1, api.MaxText + 2, api.MaxText + 50_000} {
		s, err := script.ExprText(wide(t, n))
		same(t, "longer", []any{len(s), err}, []any{0, api.ErrLarge})
	}
	e := wide(t, 300_000)
	for range 6 {
		e = op(api.OpWhen, e, e, e)
	}
	s, err := script.ExprText(e)
	same(t, "much longer", []any{len(s), err}, []any{0, api.ErrLarge})
}

func TestLongestPlay(t *testing.T) { // P1.4, P1.5
	around := len("main {\n  a.x := ;\n  a -> b [l];\n}\n")
	play := func(bytes int) api.Play {
		return api.Play{Main: steps(set("a", "x", wide(t, bytes-around)), tell("a", "b", "l"))}
	}
	p := play(api.MaxText)
	s := text(t, p)
	same(t, "the longest text", len(s), api.MaxText)
	same(t, "read", text(t, read(t, s)) == s, true)
	k, err := script.Line(p, 1)
	same(t, "Line", []any{k, err}, []any{2, api.OK})
	p = play(api.MaxText + 1)
	s, err = script.Text(p)
	same(t, "a longer text", []any{s, err}, []any{"", api.ErrLarge})
	for n, want := range map[int]api.Errno{0: api.ErrLarge, 1: api.ErrLarge, 2: api.ErrNone, -1: api.ErrNone} {
		k, err = script.Line(p, n)
		same(t, "Line of a longer text", []any{n, k, err}, []any{n, 0, want})
	}
	n, d, err := script.Count(p)
	same(t, "Count of a longer text", []any{n, d, err}, []any{2, 1, api.OK})
	q, err := script.Without(p, 0)
	same(t, "Without of a longer text", []any{text(t, q), err}, []any{"main {\n  a -> b [l];\n}\n", api.OK})
}
