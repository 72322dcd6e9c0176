package part_test

import (
	"fmt"
	"strings"
	"testing"

	"promptbook/api"
	"promptbook/part"
)

func TestPartners(t *testing.T) { // P6.3
	for s, want := range map[string]string{
		"part b { }": "[]", "part b { set x 1; }": "[]",
		example:                "[{a true true [no] []}]",
		"part b { send a 1; }": "[{a true false [] []}]",
		"part b { take a x; }": "[{a false true [] []}]",
		"part b { tell c m; tell a m; tell c l; tell c m; }":                                     "[{a false false [m] []} {c false false [l m] []}]",
		"part b { offer c { m { offer a { k { } l { } } } } offer c { l { tell a k; } m { } } }": "[{a false false [k] [k l]} {c false false [] [l m]}]",
		"part b { if 1 { } else { tell a l; } }":                                                 "[{a false false [l] []}]",
		// The Locals that are called, for the Args, but nobody with whom there is no act.
		"part b { call p 1 (a, b, c); } local p 1 (c, a, b) { send c 1; tell b l; }":                                      "[{a true false [] []} {c false false [l] []}]",
		"part b { call p 1 (a, b, c); } local p 1 (c, a, b) { send c 1; }":                                                "[{a true false [] []}]",
		"part b { call p 0 (b, a); call p 0 (b, c); } local p 0 (x, y) { take y v; }":                                     "[{a false true [] []} {c false true [] []}]",
		"part b { send c 1; } local p 0 (x, y) { take y v; }":                                                             "[{c true false [] []}]",
		"part b { call p 0 (b, a); } local p 0 (x, y) { call q 1 (y, x); } local q 1 (x, y) { tell x l; }":                "[{a false false [l] []}]",
		"part b { call p 0 (b, a, c, d); } local p 0 (x, y, z, w) { call p 0 (x, z, y, w); send y 1; }":                   "[{a true false [] []} {c true false [] []}]",
		"part b { call p 0 (b, a, c, d); } local p 0 (x, y, z, w) { if v { call p 0 (x, z, w, y); } else { } tell y l; }": "[{a false false [l] []} {c false false [l] []} {d false false [l] []}]",
		// What stands behind something that never ends is done by acts, too.
		"part b { call p 0 (b); send a 1; } local p 0 (x) { call p 0 (x); }": "[{a true false [] []}]",
		// b is called x in p, and a role x is not b.
		"part b { call p 0 (b, x); } local p 0 (x, y) { tell y l; }": "[{x false false [l] []}]",
	} {
		l, err := part.Partners(read(t, s))
		same(t, s, []any{l, err}, []any{want, api.OK})
	}
	l, err := part.Partners(api.Part{Role: "b", Main: make([]api.Act, 1)})
	same(t, "no part", []any{l, err}, []any{[]api.Partner{}, api.ErrKind})
}

func TestShortest(t *testing.T) { // P6.3
	for s, want := range map[string]string{
		"part b { }": "0 true 0", example: "4 true 0", "part b { send a 1; take a x; tell a l; set x 1; }": "4 true 0",
		"part b { if 1 { set x 1; set x 1; } else { set x 1; } }":                                                                                                          "2 true 0",
		"part b { if 0 { } else { set x 1; set x 1; } }":                                                                                                                   "1 true 0",
		"part b { offer a { k { set x 1; } l { } m { set x 1; } } }":                                                                                                       "1 true 0",
		"part b { offer a { k { set x 1; set x 1; } l { if x { } else { } } } }":                                                                                           "2 true 0",
		"part b { call p 0 (b); } local p 0 (x) { }":                                                                                                                       "0 true 0",
		"part b { call p 0 (b); call p 0 (b); set x 1; } local p 0 (x) { set x 1; set y 1; }":                                                                              "5 true 0",
		"part b { call p 0 (b); } local p 0 (x) { call p 0 (x); }":                                                                                                         "0 false 0",
		"part b { set x 1; call p 0 (b); } local p 0 (x) { if 1 { call q 0 (x); } else { call p 0 (x); } } local q 0 (x) { call p 0 (x); }":                                "0 false 0",
		"part b { call p 0 (b); } local p 0 (x) { if 1 { call p 0 (x); call p 0 (x); } else { set x 1; } }":                                                                "2 true 0",
		"part b { if 1 { call p 0 (b); } else { set x 1; set x 1; } } local p 0 (x) { call p 0 (x); }":                                                                     "3 true 0",
		"part b { set x 1; } local p 0 (x) { call p 0 (x); }":                                                                                                              "1 true 0",
		"part b { call p 0 (b); } local p 0 (x) { if 1 { call q 0 (x); } else { set x 1; set x 1; set x 1; } } local q 0 (x) { if 1 { call p 0 (x); } else { set x 1; } }": "3 true 0",
	} {
		n, ends, err := part.Shortest(read(t, s))
		if got := fmt.Sprint(n, ends, int(err)); got != want {
			t.Errorf("%s: got %s, want %s", s, got, want)
		}
	}
	n, ends, err := part.Shortest(api.Part{})
	same(t, "no part", []any{n, ends, err}, []any{0, false, api.ErrName})
}

// power does its last Local 10 to the power of n times, and then rest.
func power(n int, last, rest string) string {
	var b strings.Builder
	fmt.Fprintf(&b, "part b { call p0 0 (b); %s }", rest)
	for i := range n {
		fmt.Fprintf(&b, " local p%d 0 (x) { %s }", i, strings.Repeat(fmt.Sprintf("call p%d 0 (x); ", i+1), 10))
	}
	return b.String() + fmt.Sprintf(" local p%d 0 (x) { %s }", n, last)
}

func TestShortestBound(t *testing.T) { // P6.3, Z6
	set := "set x 1; "
	for _, c := range []struct {
		s    string
		want string
	}{
		{power(9, set, ""), "1000000000 true 0"}, {power(9, set, set), "0 false 12"}, {power(8, strings.Repeat(set, 9), ""), "900000000 true 0"},
		{power(9, set+set, ""), "0 false 12"}, {power(400, set, ""), "0 false 12"}, {power(400, "", set), "1 true 0"}, {power(400, "call p0 0 (x);", ""), "0 false 0"}, {power(400, "if x { } else { call p3 0 (x); }", ""), "0 false 12"},
		{power(30, set, "call never 0 (b);") + " local never 0 (x) { call never 0 (x); }", "0 false 0"},
		{"part b { if x { call p0 0 (b); } else { set x 1; } }" + strings.TrimPrefix(power(400, set, ""), "part b { call p0 0 (b);  }"), "2 true 0"},
	} {
		n, ends, err := part.Shortest(read(t, c.s))
		if got := fmt.Sprint(n, ends, int(err)); got != c.want {
			t.Errorf("%s: got %s, want %s", short(c.s), got, c.want)
		}
	}
}

func TestRenamed(t *testing.T) { // P6.3
	pairs := func(s string) []api.Pair {
		var l []api.Pair
		for _, w := range strings.Fields(s) {
			left, right, _ := strings.Cut(w, "=")
			l = append(l, api.Pair{Name: left, Value: right})
		}
		return l
	}
	const s = "part b { send a 1; offer c { l { call p 1 (a, b, d); } } if b { tell e a; } else { } } local p 1 (a, b, c) { take a a; call p 1 (c, b, a); }"
	const local = " local p 1 (a, b, c) { take a a; call p 1 (c, b, a); }"
	for _, c := range []struct {
		pairs, want string
		err         api.Errno
	}{
		{"", s, api.OK},
		{"b=z", "part z { send a 1; offer c { l { call p 1 (a, z, d); } } if b { tell e a; } else { } }" + local, api.OK},
		{"a=b b=a", "part a { send b 1; offer c { l { call p 1 (b, a, d); } } if b { tell e a; } else { } }" + local, api.OK},
		{"a=c c=d d=x e=a", "part b { send c 1; offer d { l { call p 1 (c, b, x); } } if b { tell a a; } else { } }" + local, api.OK},
		{"a=a", s, api.OK},
		{"d=l", "part b { send a 1; offer c { l { call p 1 (a, b, l); } } if b { tell e a; } else { } }" + local, api.OK},
		{"f=g", "", api.ErrName}, {"a=A", "", api.ErrName}, {"a=", "", api.ErrName}, {"x=y", "", api.ErrName}, {"=y", "", api.ErrName}, {"p=q", "", api.ErrName}, {"l=m", "", api.ErrName},
		{"a=x a=y", "", api.ErrTwice}, {"a=x b=x", "", api.ErrTwice}, {"a=c c=c", "", api.ErrTwice}, {"a=b", "", api.ErrConflict}, {"b=a", "", api.ErrConflict}, {"a=c c=d", "", api.ErrConflict}, {"a=c f=g", "", api.ErrName}, {"a=c b=c", "", api.ErrTwice},
		{strings.Repeat("f=g ", api.MaxRoles), "", api.ErrName}, {strings.Repeat("f=g ", api.MaxRoles+1), "", api.ErrLarge},
	} {
		q, err := part.Renamed(read(t, s), pairs(c.pairs))
		same(t, c.pairs, err, c.err)
		if err != api.OK {
			same(t, c.pairs, q, api.Part{})
		} else {
			same(t, c.pairs, words(t, q), c.want)
		}
	}
	q, err := part.Renamed(read(t, "part b { set x 1; }"), pairs("b=x"))
	same(t, "alone", []any{words(t, q), err}, []any{"part x { set x 1; }", api.OK})
	_, err = part.Renamed(read(t, "part b { } local p 0 (a) { }"), pairs("a=x"))
	same(t, "a Param is no role", err, api.ErrName)
	_, err = part.Renamed(read(t, "part b { } local p 0 (a) { }"), pairs("b=a"))
	same(t, "nor in the way", err, api.OK)
	_, err = part.Renamed(api.Part{}, make([]api.Pair, 100))
	same(t, "no part", err, api.ErrName)
}

func TestRenamedBackAndForth(t *testing.T) { // P6.3
	d := &dice{14}
	for range tries {
		p := d.part()
		there, back := []api.Pair{{Name: "b", Value: "c"}}, []api.Pair{{Name: "c", Value: "b"}}
		if strings.Contains(fmt.Sprint(all(p.Main)), "c") {
			there, back = append(there, api.Pair{Name: "c", Value: "b"}), append(back, api.Pair{Name: "b", Value: "c"})
		}
		q, err := part.Renamed(p, there)
		if err == api.ErrName { // it was another c
			there, back = there[:1], back[:1]
			q, err = part.Renamed(p, there)
		}
		r, backErr := part.Renamed(q, back)
		same(t, "roles of "+words(t, p), []any{err, backErr, r, q.Role, part.CheckPart(q)}, []any{api.OK, api.OK, p, "c", api.OK})
	}
}
