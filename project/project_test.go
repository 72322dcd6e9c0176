package project_test

import (
	"fmt"
	"strings"
	"testing"

	"promptbook/api"
	"promptbook/project"
)

// parts are those of all roles, in a line; how many of them are blind where there are none.
func parts(t *testing.T, p api.Play) string {
	t.Helper()
	l, err := project.All(p)
	if err != api.OK {
		return fmt.Sprint("error ", err)
	}
	var out []string
	for _, x := range l {
		out = append(out, briefPart(x))
		one, err := project.Project(p, x.Role)
		same(t, "Project "+x.Role, []any{one, err}, []any{x, api.OK})
	}
	return strings.Join(out, " ")
}

func TestSteps(t *testing.T) { // P5.1
	for in, want := range map[string]string{
		"":                                   "",
		"a.x + 1 -> b.y;":                    "part a { send b x + 1; } part b { take a y; }",
		"a -> b [go];":                       "part a { tell b go; } part b { offer a { go { } }; }",
		"a.x := y;":                          "part a { set x y; }",
		"a.x := y; b.y := 2;":                "part a { set x y; } part b { set y 2; }",
		"a.1 -> b.y; b.y := 2;":              "part a { send b 1; } part b { take a y; set y 2; }",
		"a -> b [go]; a.1 -> b.y; b.y := 2;": "part a { tell b go; send b 1; } part b { offer a { go { take a y; set y 2; } }; }",
		"a.1 -> b.y; a -> b [go]; c -> b [on]; b.y := 2;":                 "part a { send b 1; tell b go; } part b { take a y; offer a { go { offer c { on { set y 2; } }; } }; } part c { tell b on; }",
		"if a.x { } else { }":                                             "part a { if x { } else { }; }",
		"if a.x { a.y := 1; } else { a.z := 2; a.z := 3; } b.1 -> a.v;":   "part a { if x { set y 1; } else { set z 2; set z 3; }; take b v; } part b { send a 1; }",
		"if a.x { b.y := 1; } else { b.y := 1; } b.z := 2;":               "part a { if x { } else { }; } part b { set y 1; set z 2; }",
		"if a.x { a -> b [m]; b.y := 1; } else { a -> b [l]; } b.z := 2;": "part a { if x { tell b m; } else { tell b l; }; } part b { offer a { l { } m { set y 1; } }; set z 2; }",
	} {
		same(t, in, parts(t, read(t, "main { "+in+" }")), want)
	}
}

func TestCalls(t *testing.T) { // P5.1, P5.2
	const procs = "proc p(x, y) { x.1 -> y.v; } proc q(y, x) { p(x, y); y.v := 1; } proc r(x) { r(x); } proc none(x) { x.v := 1; if x.v { } else { } } "
	for in, want := range map[string]string{
		"p(a, b);":                              "part a { call p 0 (a, b); } local p 0 (x, y) { send y 1; } part b { call p 1 (a, b); } local p 1 (x, y) { take x v; }",
		"p(x, y);":                              "part x { call p 0 (x, y); } local p 0 (x, y) { send y 1; } part y { call p 1 (x, y); } local p 1 (x, y) { take x v; }",
		"q(a, b); c.v := 1;":                    "part a { call q 0 (a, b); } local p 1 (x, y) { take x v; } local q 0 (y, x) { call p 1 (x, y); set v 1; } part b { call q 1 (a, b); } local p 0 (x, y) { send y 1; } local q 1 (y, x) { call p 0 (x, y); } part c { set v 1; }",
		"r(a);":                                 "part a { call r 0 (a); } local r 0 (x) { call r 0 (x); }",
		"r(a); q(a, b); p(a, b);":               "part a { call r 0 (a); call q 0 (a, b); call p 0 (a, b); } local p 0 (x, y) { send y 1; } local p 1 (x, y) { take x v; } local q 0 (y, x) { call p 1 (x, y); set v 1; } local r 0 (x) { call r 0 (x); } part b { call q 1 (a, b); call p 1 (a, b); } local p 0 (x, y) { send y 1; } local p 1 (x, y) { take x v; } local q 1 (y, x) { call p 0 (x, y); }",
		"if a.v { p(b, c); } else { p(b, c); }": "part a { if v { } else { }; } part b { call p 0 (b, c); } local p 0 (x, y) { send y 1; } part c { call p 1 (b, c); } local p 1 (x, y) { take x v; }",
		"if a.v { a -> b [l]; r(b); } else { a -> b [m]; p(b, a); }": "part a { if v { tell b l; } else { tell b m; call p 1 (b, a); }; } local p 1 (x, y) { take x v; } part b { offer a { l { call r 0 (b); } m { call p 0 (b, a); } }; } local p 0 (x, y) { send y 1; } local r 0 (x) { call r 0 (x); }",
	} {
		same(t, in, parts(t, read(t, procs+"main { "+in+" }")), want)
	}
}

func TestLocalsTurn(t *testing.T) { // P5.2: a role gets into all Indices of a procedure that turns its Params
	p := read(t, "proc p(x, y, z) { x.1 -> y.v; p(y, z, x); } main { p(a, b, c); d.v := 1; }")
	want := " local p 0 (x, y, z) { send y 1; call p 2 (y, z, x); } local p 1 (x, y, z) { take x v; call p 0 (y, z, x); } local p 2 (x, y, z) { call p 1 (y, z, x); }"
	same(t, "parts", parts(t, p), "part a { call p 0 (a, b, c); }"+want+" part b { call p 1 (a, b, c); }"+want+" part c { call p 2 (a, b, c); }"+want+" part d { set v 1; }")
}

// merged is the projection on b, or the error, of a choice with these branches.
func merged(t *testing.T, then, otherwise string) string {
	t.Helper()
	p := read(t, "proc p(x, y) { } proc q(x, y) { } main { b.first := 1; if a.x { "+then+" } else { "+otherwise+" } b.last := 1; }")
	part, err := project.Project(p, "b")
	if err != api.OK {
		same(t, "with an error", part, api.Part{})
		return fmt.Sprint("error ", err)
	}
	return strings.TrimSuffix(strings.TrimPrefix(brief(part.Main), "set first 1; "), "set last 1; ")
}

func TestMergesOfEqual(t *testing.T) { // P5.2
	for in, want := range map[string]string{
		"":                                    "",
		"a.x := 1;":                           "",
		"b.x := y ? 1 : 2;":                   "set x y ? 1 : 2; ",
		"b.1 -> a.x; a.2 -> b.x; b -> a [l];": "send a 1; take a x; tell a l; ",
		"p(a, b); q(b, a);":                   "call p 1 (a, b); call q 0 (b, a); ",
		"if b.x { b.y := 1; } else { }":       "if x { set y 1; } else { }; ",
		"c -> b [l]; b.1 -> a.x;":             "offer c { l { send a 1; } }; ",
		"if c.x { c -> b [l]; } else { c -> b [m]; b.x := 1; } b.y := 1;": "offer c { l { } m { set x 1; } }; set y 1; ",
	} {
		same(t, in, merged(t, in, in), want)
	}
}

func TestMergesOfOthers(t *testing.T) { // P5.2
	for _, c := range []struct{ then, otherwise, want string }{
		{"a -> b [m];", "a -> b [l];", "offer a { l { } m { } }; "},
		{"a -> b [l2]; b.x := 1;", "a -> b [l10]; b.x := 2;", "offer a { l10 { set x 2; } l2 { set x 1; } }; "},
		{"a.1 -> b.x; a -> b [m]; b.x := 1;", "a.2 -> b.x; a -> b [l];", "take a x; offer a { l { } m { set x 1; } }; "},
		{"a -> b [l]; b.1 -> a.x; a -> b [m];", "a -> b [l]; b.1 -> a.x; a -> b [k];", "offer a { l { send a 1; offer a { k { } m { } }; } }; "},
		{"c -> b [l]; a -> b [m];", "c -> b [k]; a -> b [m];", "offer c { k { offer a { m { } }; } l { offer a { m { } }; } }; "},
		{"if b.x { a -> b [l]; } else { a -> b [m]; }", "if b.x { a -> b [k]; } else { a -> b [m]; }", "if x { offer a { k { } l { } }; } else { offer a { m { } }; }; "},
		{"if b.x { } else { a -> b [l]; }", "if b.x { } else { a -> b [m]; }", "if x { } else { offer a { l { } m { } }; }; "},
		{"if c.x { c -> b [l]; } else { c -> b [m]; }", "if c.x { c -> b [n]; b.x := 1; } else { c -> b [m]; }", "offer c { l { } m { } n { set x 1; } }; "},
		{"if c.x { b.x := 1; } else { b.x := 1; }", "b.x := 1;", "set x 1; "},
		{"a.1 -> b.x;", "a.2 -> b.x;", "take a x; "},
		{"a.1 -> b.x; c.1 -> d.x;", "a.1 -> b.x; c.2 -> d.y;", "take a x; "},
	} {
		same(t, c.then+" / "+c.otherwise, merged(t, c.then, c.otherwise), c.want)
		same(t, c.otherwise+" / "+c.then, merged(t, c.otherwise, c.then), c.want)
	}
}

func TestNoMerges(t *testing.T) { // P5.2
	for _, c := range [][2]string{
		{"b.x := 1;", ""}, {"b.x := 1; b.x := 1;", "b.x := 1;"}, {"a -> b [l];", ""}, {"if b.x { } else { }", ""}, {"p(a, b);", ""},
		{"b.x := 1;", "b.x := 2;"}, {"b.x := 1;", "b.y := 1;"}, {"b.x := y;", "b.x := z;"}, {"b.x := 1 + y;", "b.x := y + 1;"}, {"b.x := y;", "b.x := y + 0;"}, {"b.x := !y;", "b.x := !z;"},
		{"b.1 -> a.x;", "b.2 -> a.x;"}, {"b.1 -> a.x;", "b.1 -> c.x;"}, {"b.1 -> a.x;", "b -> a [x];"}, {"b.1 -> a.x;", "a.1 -> b.x;"},
		{"a.1 -> b.x;", "a.1 -> b.y;"}, {"a.1 -> b.x;", "c.1 -> b.x;"}, {"a.1 -> b.x;", "a -> b [x];"}, {"a.1 -> b.x;", "b.x := 1;"},
		{"b -> a [l];", "b -> a [m];"}, {"b -> a [l];", "b -> c [l];"}, {"b -> a [l];", "a -> b [l];"},
		{"a -> b [l];", "c -> b [l];"}, {"a -> b [l];", "c -> b [m];"}, {"a -> b [l]; b.x := 1;", "a -> b [l]; b.x := 2;"}, {"a -> b [l]; b.x := 1;", "a -> b [l];"},
		{"a -> b [l]; a -> b [m]; b.x := 1;", "a -> b [l]; a -> b [m]; b.x := 2;"}, {"a -> b [l]; c -> b [m];", "a -> b [l]; a -> b [m];"},
		{"if b.x { } else { }", "if b.y { } else { }"}, {"if b.x { b.y := 1; } else { }", "if b.x { } else { }"}, {"if b.x { } else { b.y := 1; }", "if b.x { } else { b.y := 2; }"}, {"if b.x { b.y := 1; } else { b.y := 2; }", "if b.x { b.y := 2; } else { b.y := 1; }"},
		{"p(a, b);", "q(a, b);"}, {"p(a, b);", "p(b, a);"}, {"p(a, b);", "p(c, b);"}, {"p(b, a);", "p(b, c);"},
		{"if c.x { b.y := 1; } else { }", "if c.x { b.y := 1; } else { }"}, {"if b.z { if a.x { b.y := 1; } else { } } else { }", "if b.z { if a.x { b.y := 1; } else { } } else { }"},
	} {
		same(t, c[0]+" / "+c[1], merged(t, c[0], c[1]), "error 16")
		same(t, c[1]+" / "+c[0], merged(t, c[1], c[0]), "error 16")
	}
}

func TestProjectErrors(t *testing.T) { // P5.1, P5.2
	long := strings.Repeat("a", api.MaxName)
	const local = "proc p(x, y) { q(y, x); } proc q(x, y) { if x.v { x.1 -> y.v; } else { } } "
	for _, c := range []struct {
		text, role string
		want       api.Errno
	}{
		{"main { a.x := 1; }", "a", api.OK}, {"main { " + long + ".x := 1; }", long, api.OK},
		{"main { a.x := 1; }", "", api.ErrName}, {"main { a.x := 1; }", "A", api.ErrName}, {"main { a.x := 1; }", "if", api.ErrName}, {"main { a.x := 1; }", long + "a", api.ErrName},
		{"main { a.x := 1; }", "b", api.ErrNone}, {"main { }", "a", api.ErrNone}, {"proc p(x) { } main { p(a); }", "x", api.ErrNone}, {"proc p(x) { } main { p(a); }", "p", api.ErrNone},
		{"main { if a.x { a.1 -> b.y; } else { } }", "a", api.OK}, {"main { if a.x { a.1 -> b.y; } else { } }", "b", api.ErrRule}, {"main { if a.x { a.1 -> b.y; } else { } }", "c", api.ErrNone}, {"main { if a.x { a.1 -> b.y; } else { } }", "B", api.ErrName},
		{local + "main { p(a, b); }", "b", api.OK}, {local + "main { p(a, b); }", "a", api.ErrRule}, {local + "main { a.x := 1; }", "a", api.OK},
		{"main { a.x -> a.y; }", "A", api.ErrTwice}, {"main { p(a); }", "b", api.ErrNone},
	} {
		got, err := project.Project(read(t, c.text), c.role)
		same(t, c.text+" "+c.role, err, c.want)
		if err != api.OK {
			same(t, "with an error", got, api.Part{})
		}
	}
}

func TestAll(t *testing.T) { // P5.2
	for text, want := range map[string]string{
		"main { }":                                 "",
		"proc p(x) { x.v := 1; } main { }":         "",
		"main { b.1 -> aa.x; a.x := 1; }":          "part a { set x 1; } part aa { take b x; } part b { send aa 1; }",
		"main { if a.x { a.1 -> b.y; } else { } }": "error 16",
		"proc p(x, y) { if y.v { y.1 -> x.v; } else { } } main { p(b, a); }":         "error 16",
		"proc p(x, y) { if y.v { y.1 -> x.v; } else { } } main { a.1 -> b.x; }":      "part a { send b 1; } part b { take a x; }",
		"proc p(x) { p(x); x.v := 1; } main { p(a); b.v := 1; }":                     "part a { call p 0 (a); } local p 0 (x) { call p 0 (x); set v 1; } part b { set v 1; }",
		"main { if a.x { a -> b [l]; a.1 -> b.y; } else { a -> b [m]; } a.x := 1; }": "part a { if x { tell b l; send b 1; } else { tell b m; }; set x 1; } part b { offer a { l { take a y; } m { } }; }",
	} {
		same(t, text, parts(t, read(t, text)), want)
	}
}

func TestTaken(t *testing.T) { // P5.5
	p := read(t, `proc p(x, y) { x.1 -> y.v; b.no := 1; } proc q(b) { b.v := 1; }
main {
  a.x := 1;
  b.1 -> c.x;
  b -> c [l];
  if a.x {
    if c.y {
      d.x := 1;
    } else { }
    a.1 -> b.x;
  } else {
    if c.y { } else {
      p(c, d);
    }
  }
  p(b, a);
  if d.x { } else { }
  c -> a [l];
}`)
	_, err := project.Taken(p, "a")
	same(t, "not well formed", err, api.ErrName)
	p.Procs[0].Body = p.Procs[0].Body[:1]
	for role, want := range map[string][]int{
		"a": {0, 3, 6, 9, 11}, "b": {1, 2, 3, 6, 9}, "c": {1, 2, 3, 4, 7, 8, 11}, "d": {3, 4, 5, 7, 8, 10},
	} {
		got, err := project.Taken(p, role)
		same(t, role, []any{got, err}, []any{want, api.OK})
	}
	for role, want := range map[string]api.Errno{"x": api.ErrNone, "e": api.ErrNone, "": api.ErrName, "D": api.ErrName} {
		got, err := project.Taken(p, role)
		same(t, role, []any{got, err}, []any{[]int{}, want})
	}
	got, err := project.Taken(read(t, example), "b")
	same(t, "without a projection", []any{got, err}, []any{[]int{0, 1}, api.OK})
}
