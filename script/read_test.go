package script_test

import (
	"fmt"
	"strings"
	"testing"

	"promptbook/api"
	"promptbook/script"
)

func TestReadSteps(t *testing.T) { // P1.3, P1.5
	x := variable("x")
	for s, want := range map[string][]api.Step{
		"":                                       nil,
		"a.x -> b.y;":                            steps(send("a", x, "b", "y")),
		"a.x-1->b.y;":                            steps(send("a", op(api.OpSub, x, number(1)), "b", "y")),
		"a -> b [l];":                            steps(tell("a", "b", "l")),
		"a.x := x;":                              steps(set("a", "x", x)),
		"a.x := x ? 1 : 0;":                      steps(set("a", "x", op(api.OpWhen, x, number(1), number(0)))),
		"if a.x { } else { }":                    steps(choice("a", x, nil, nil)),
		"if a.x { p(a); } else { }":              steps(choice("a", x, steps(call("p", "a")), nil)),
		"if a.x { } else { p(a); }":              steps(choice("a", x, nil, steps(call("p", "a")))),
		"p(a);":                                  steps(call("p", "a")),
		"p(a, b, a);":                            steps(call("p", "a", "b", "a")),
		"p(a);p(b);a->a[a];":                     steps(call("p", "a"), call("p", "b"), tell("a", "a", "a")),
		"if a.x{if b.x{}else{p(b);}}else{}p(a);": steps(choice("a", x, steps(choice("b", x, nil, steps(call("p", "b")))), nil), call("p", "a")),
	} {
		same(t, s, read(t, "main {"+s+"}"), api.Play{Main: want})
		p := read(t, "proc p(a, b) {"+s+"} main { }")
		same(t, s, p, api.Play{Procs: []api.Proc{{Key: "p", Params: []string{"a", "b"}, Body: want}}})
	}
	p := read(t, "proc z(a) { } proc y(b) { } main { }")
	same(t, "procedures in order", []string{p.Procs[0].Key, p.Procs[1].Key}, []string{"z", "y"})
}

func TestReadExpr(t *testing.T) { // P1.3, P1.5
	a, b, c, d := variable("a"), variable("b"), variable("c"), variable("d")
	for s, want := range map[string]api.Expr{
		"a": a, "((a))": a, "0": number(0), "999": number(999), "7": number(7), "10": number(10), "long": variable("long"), long: variable(long),
		"a+b": op(api.OpAdd, a, b), "a-b-c": op(api.OpSub, op(api.OpSub, a, b), c), "a-(b-c)": op(api.OpSub, a, op(api.OpSub, b, c)),
		"a*b*c": op(api.OpMul, op(api.OpMul, a, b), c), "a+b*c-d": op(api.OpSub, op(api.OpAdd, a, op(api.OpMul, b, c)), d),
		"!a*b": op(api.OpMul, op(api.OpNot, a), b), "!(a)": op(api.OpNot, a), "! !a": op(api.OpNot, op(api.OpNot, a)), "!(a*b)+c": op(api.OpAdd, op(api.OpNot, op(api.OpMul, a, b)), c),
		"a<b+c": op(api.OpLess, a, op(api.OpAdd, b, c)), "a==b": op(api.OpSame, a, b), "(a<b)==c": op(api.OpSame, op(api.OpLess, a, b), c),
		"a?b:c?d:a": op(api.OpWhen, a, b, op(api.OpWhen, c, d, a)), "a?b?c:d:a": op(api.OpWhen, a, op(api.OpWhen, b, c, d), a),
		"a<b?c:d": op(api.OpWhen, op(api.OpLess, a, b), c, d), "(a?b:c)+d": op(api.OpAdd, op(api.OpWhen, a, b, c), d), "a?b:c+d": op(api.OpWhen, a, b, op(api.OpAdd, c, d)),
		"a?b:c<d": op(api.OpWhen, a, b, op(api.OpLess, c, d)), "a<b?c<d:a==b": op(api.OpWhen, op(api.OpLess, a, b), op(api.OpLess, c, d), op(api.OpSame, a, b)),
		"\n\t a # b\n": a, "#x\n#y\na": a, "a#": a,
	} {
		same(t, s, readExpr(t, s), want)
	}
}

// wrongPlays are texts of no play, with the lines of the first words that do not fit.
var wrongPlays = map[string]int{
	"": 0, "\n": 1, "# main { }": 0, "#\n\n": 2, "proc": 0, "proc\n\n": 2,
	"main": 0, "main\n{": 1, "main { }\n}": 1, "main { }\nmain { }": 1, "main { }\n# }\nx": 2, "main { } \r": 0,
	"x": 0, "\n\n{ }": 2, "main\n( )": 1, "main { }\nproc p(a) { }": 1, "\nMain { }": 1, "mainx { }": 0, "main { {\n } }": 0, "main {\n;\n}": 1,
	"proc\n1(a) { } main { }": 1, "proc\nif(a) { } main { }": 1, "proc p\n{ } main { }": 1, "proc p(\n) { } main { }": 1, "proc p(a\nb) { } main { }": 1, "proc p(a,\n) { } main { }": 1, "proc p(a) {\n} }\nmain { }": 1, "proc p(a) { }\n": 1, "proc p(a)\n; main { }": 1,
	// sends and sets
	"main { a\n; }": 1, "main { a.\n; }": 1, "main { a.x\n; }": 1, "main { a.x ->\nb; }": 1, "main { a.x -> b\n; }": 1, "main { a.x -> b.\n1; }": 1, "main { a.x -> b.y\n}": 1,
	"main { a.(x)\n:= 1; }": 1, "main { a.1\n:= 1; }": 1, "main { a.x + y\n:= 1; }": 1, "main { a.x :=\n; }": 1, "main { a.x := 1\n-> b.y; }": 1, "main { a.x\n: = 1; }": 1, "main { a.if\n:= 1; }": 0, "main { a.x = \n1; }": 0,
	"main { 1\n.x := 1; }": 0, "main { a.x\n. y := 1; }": 1, "main { a.x -\n> b.y; }": 1, "main { a.x := 1 }\n": 0,
	// tells
	"main { a -> \n[l]; }": 1, "main { a -> b\n; }": 1, "main { a -> b [\n]; }": 1, "main { a -> b [l\n; }": 1, "main { a -> b [l]\n}": 1, "main { a -> b\n.x; }": 1, "main {\n\n a -> if [x]; }": 2, "main { a -> b [\nelse]; }": 1, "main { a -\n> b [l]; }": 0,
	// calls
	"main { p(\n); }": 1, "main { p(a\nb); }": 1, "main { p(a,\n); }": 1, "main { p(a)\n}": 1, "main { p\n[a]; }": 1, "main { p(\n1); }": 1, "main { (\na); }": 0, "main { p(a;\n": 0,
	// choices
	"main { if\n{ } else { } }": 1, "main { if a\n{ } else { } }": 1, "main { if a.\n{ } else { } }": 1, "main { if a.x\n; }": 1, "main { if a.x { }\n}": 1, "main { if a.x { } else\nif a.x { } else { } }": 1, "main { if a.x { } else {\n": 1, "main { if a.x { } else { } }\n}": 1, "main { else\n{ } }": 0, "main { if (\na.x) { } else { } }": 0, "main { if a.x := \n1 { } else { } }": 0, "main { if a.x { } else { }\n; }": 1,
	// words
	"main { a.x := 1000\n; }": 0, "main { a.x := 01\n; }": 0, "main { a.x := 00\n; }": 0, "main { a.x := -1\n; }": 0, "main { a.x := 1a\n; }": 0, "main { a.x := 99999999999999999999\n; }": 0,
	"main { A.x := 1\n; }": 0, "main { aB.x := 1\n; }": 0, "main { _.x := 1\n; }": 0, "main { a.x := \u00e9\n; }": 0, "main { a.x := y\u00e9\n; }": 0, "main { a.x := 1 \x00\n; }": 0, "main {\r\n}": 0, "main {\v\n}": 0, "main {\f\n}": 0, "main {\u00a0\n}": 0, "main { a.x := 1; // \n}": 0, "main { \"\n\" }": 0, "main { a.x := 1 % \n2; }": 0, "main { a.x := 1 > \n2; }": 0, "main { a.x := 1 === \n2; }": 0, "main { a.x := 1 =\n= 2; }": 0, "main { a.x :\n= 2; }": 0, "main { a.x := 1 !\n= 2; }": 0,
	"main { \na" + long + ".x := 1; }": 1, "main # {\n }": 1, "main { a.x := 1 # ; }\n": 1,
	"mai\nn { }": 0, "main { a - > b [l]; }": 0, "main { a-\n>b [l]; }": 0, "main { a . x : = 1; }": 0,
}

func TestWrongPlays(t *testing.T) { // P1.3, P1.5, Z9, Z10
	for s, line := range wrongPlays {
		p, n, err := script.Read(s)
		same(t, fmt.Sprintf("%q", s), []any{p, n, err}, []any{api.Play{}, line, api.ErrSyntax})
	}
}

func TestWrongExprs(t *testing.T) { // P1.3, P1.5
	for s, line := range map[string]int{
		"": 0, "\n\n": 2, "a\nb": 1, "a\n1": 1, "(\n": 1, "(a\n": 1, "(a\n]": 1, "a\n)": 1, "()\n": 0, "(\n)": 1, "a +\n": 1, "a +\n+ b": 1, "a\n! b": 1, "!\n": 1, "!\n* a": 1, "* \na": 0, "- \na": 0,
		"a < b\n< c": 1, "a < b\n== c": 1, "a == b + c\n< d": 1, "a == b\n== c": 1, "a <\n< b": 1, "(a < b\n< c)": 1, "a ? b : c < d\n< a": 1, "a ? b < c\n< d : a": 1,
		"a ?\n": 1, "a ?\n: b": 1, "a ? b\n": 1, "a ? b :\n": 1, "a\n: b": 1, "a ? b : c\n: d": 1, "(a ? b\n) : c": 1, "a ? (b\n: c)": 1, "(a\n: b)": 1, "a ? b : c\n)": 1, "(a ? b : c\n": 1, "a ?\n? b": 1, "a ? b\n;": 1,
		"a\n:= 1": 1, "a\n-> b": 1, "a\n;": 1, "a\n.b": 1, "a\n, b": 1, "a\n{": 1, "if\n": 0, "a + main\n": 0, "a\n\n=": 2, "a + 1000\n": 0, "a + 01\n": 0, "a\n@": 1, "\xff\n": 0, "a # \n b # \n": 1,
	} {
		e, n, err := script.ReadExpr(s)
		same(t, fmt.Sprintf("%q", s), []any{e, n, err}, []any{api.Expr{}, line, api.ErrSyntax})
	}
}

func TestReadLimits(t *testing.T) { // P1.5
	pad := func(s string, bytes int) string { return s + strings.Repeat(" ", bytes-len(s)) }
	for _, s := range []string{"main { }", "main { a.x := 1; } #"} {
		_, line, err := script.Read(pad(s, api.MaxText))
		same(t, "the longest text", []any{line, err}, []any{0, api.OK})
		_, line, err = script.Read(pad(s, api.MaxText+1))
		same(t, "a longer text", []any{line, err}, []any{0, api.ErrLarge})
	}
	_, line, err := script.Read("\n" + strings.Repeat("}", api.MaxText))
	same(t, "large before syntax", []any{line, err}, []any{0, api.ErrLarge})
	_, line, err = script.ReadExpr(pad("a", api.MaxText))
	same(t, "the longest expression", []any{line, err}, []any{0, api.OK})
	_, line, err = script.ReadExpr("\n" + pad("=", api.MaxText))
	same(t, "a longer expression", []any{line, err}, []any{0, api.ErrLarge})
}

func TestReadChecks(t *testing.T) { // P1.5: errors of CheckPlay and CheckExpr, with the line 0
	proc := func(n int) string {
		var b strings.Builder
		for i := range n {
			fmt.Fprintf(&b, "proc p%d(a) { }\n", i)
		}
		return b.String()
	}
	block := func(n int) string {
		return strings.Repeat("if a.1 {", n) + "a -> b [l];" + strings.Repeat("} else { }", n)
	}
	args := func(n int) string { return strings.Join(roles(n), ", ") }
	for _, c := range []struct {
		s    string
		want api.Errno
	}{
		{proc(50) + "main { }", api.OK}, {proc(51) + "main { }", api.ErrLarge},
		{"\nproc p(a) { }\nproc p(a) { } main { }", api.ErrTwice},
		{"\nproc p(a, b, a) { } main { }", api.ErrTwice},
		{"\nproc p(" + args(12) + ") { } main { }", api.OK}, {"\nproc p(" + args(13) + ") { } main { }", api.ErrLarge},
		{"\nmain { p(" + args(12) + "); }", api.OK}, {"\nmain { p(" + args(13) + "); }", api.ErrLarge},
		{"\nmain {" + block(19) + "}", api.OK}, {"\nmain {" + block(20) + "}", api.ErrLarge},
		{"\nmain {" + strings.Repeat("a.x := 1;\n", 2000) + "}", api.OK}, {"\nmain {" + strings.Repeat("a.x := 1;\n", 2001) + "}", api.ErrLarge},
		{"\nmain { a.x := " + strings.Repeat("!", 19) + "1; }", api.OK}, {"\nmain { a.x := " + strings.Repeat("!", 20) + "1; }", api.ErrLarge},
		{"\nproc p(a) { a.x := " + strings.Repeat("!", 20) + "1; } proc p(a) { } main { }", api.ErrLarge},
		{"\nproc p(a) { } proc p(a) { a.x := " + strings.Repeat("!", 20) + "1; } main { }", api.ErrTwice},
	} {
		p, line, err := script.Read(c.s)
		same(t, c.s, []any{line, err}, []any{0, c.want})
		if err != api.OK {
			same(t, c.s, p, api.Play{})
			_, line, err = script.Read(c.s + "\n}")
			same(t, "syntax first: "+c.s, []any{line, err}, []any{strings.Count(c.s, "\n") + 1, api.ErrSyntax})
		}
	}
	for s, want := range map[string]api.Errno{
		strings.Repeat("1 + ", 19) + "1": api.OK, "\n" + strings.Repeat("1 + ", 20) + "1": api.ErrLarge,
		strings.Repeat("1 ? 2 : ", 19) + "1": api.OK, "\n" + strings.Repeat("1 ? 2 : ", 20) + "1": api.ErrLarge,
		strings.Repeat("(", 500) + "1" + strings.Repeat(")", 500): api.OK,
	} {
		e, line, err := script.ReadExpr(s)
		same(t, s, []any{line, err}, []any{0, want})
		same(t, s, e.Op == 0, err != api.OK)
		_, line, err = script.ReadExpr(s + "\n\n)")
		same(t, "syntax first: "+s, []any{line, err}, []any{strings.Count(s, "\n") + 2, api.ErrSyntax})
	}
}
