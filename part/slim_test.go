package part_test

import (
	"fmt"
	"slices"
	"strings"
	"testing"

	"promptbook/api"
	"promptbook/part"
)

// slimmed are parts, what they become, and how many acts they have less.
type slimmed []struct {
	s, want string
	less    int
}

func (l slimmed) check(t *testing.T) {
	t.Helper()
	for _, c := range l {
		p := read(t, c.s)
		want := c.want
		if want == "" {
			want = c.s
		}
		q, n, err := part.Slim(p)
		same(t, c.s, []any{words(t, q), n, err}, []any{want, c.less, api.OK})
		again, n, err := part.Slim(q)
		same(t, "again: "+c.s, []any{again, n, err}, []any{q, 0, api.OK})
	}
}

func TestSlim(t *testing.T) { // P6.5
	slimmed{
		{"part b { }", "", 0},
		{example, "part b { take a x; set y x; send a y; }", 2},
		// Expressions, in all acts that have one.
		{"part b { send a x + 0; set y x * 1; if !!!x { send a y - 0; } else { } }", "part b { send a x; set y x; if !x { send a y; } else { } }", 0},
		{"part b { send a (x + 0) * (3 - 2); }", "part b { send a x; }", 0},
		// Choices: by a number, by equal branches, from inside to outside.
		{"part b { if 0 { send a 1; } else { send a 2; tell a l; } }", "part b { send a 2; tell a l; }", 2},
		{"part b { if 7 { send a 1; } else { send a 2; tell a l; } }", "part b { send a 1; }", 3},
		{"part b { if x { send a 1; } else { send a 1; } }", "part b { send a 1; }", 2},
		{"part b { if x { send a 1 + 1; } else { send a 2; } }", "part b { send a 2; }", 2},
		{"part b { if x { } else { } }", "part b { }", 1},
		{"part b { if x { if y { } else { } send a 1; } else { send a 1; } }", "part b { send a 1; }", 3},
		{"part b { if x { if 1 { send a 1; } else { } } else { send a 1; } tell a l; }", "part b { send a 1; tell a l; }", 3},
		{"part b { if 1 { if 0 { send a 1; } else { send a 2; } } else { send a 3; } }", "part b { send a 2; }", 4},
		{"part b { offer a { l { if x { } else { } } } }", "part b { offer a { l { } } }", 1},
		{"part b { if x { offer a { l { } } } else { offer a { m { } } } if x { offer a { l { } } } else { offer a { l { } m { } } } if x { send a 1; } else { send c 1; } }", "", 0},
		{"part b { if x { take a y; } else { take a z; } if x { tell a l; } else { tell a m; } if x { send a 1; send a 1; } else { send a 1; } if x { if z { send a 1; } else { } } else { if z { } else { send a 1; } } }", "", 0},
		{"part b { if x { offer a { l { send a 1; } } } else { offer a { l { send a 1; } } } }", "part b { offer a { l { send a 1; } } }", 3},
		{"part b { if x { call p 0 (b, a); } else { call p 0 (b, c); } } local p 0 (x, y) { send y 1; }", "", 0},
	}.check(t)
}

func TestSlimSets(t *testing.T) { // P6.5: which variables are needed
	slimmed{
		{"part b { set x 1; }", "part b { }", 1},
		{"part b { set x 1; set x 2; send a x; }", "part b { set x 2; send a x; }", 1},
		{"part b { set x 1; set x x + 1; send a x; }", "", 0},
		{"part b { set x 1; take a x; send a x; }", "part b { take a x; send a x; }", 1},
		{"part b { set x 1; send a y; }", "part b { send a y; }", 1},
		{"part b { take a x; }", "", 0},
		{"part b { set x 1; if x { send a 1; } else { } }", "", 0},
		{"part b { set x 1; if y { send a x; } else { } }", "", 0},
		{"part b { set x 1; if y { } else { send a x; } }", "", 0},
		{"part b { set x 1; if y { set x 2; } else { } send a x; }", "", 0},
		{"part b { set x 1; if y { set x 2; } else { set x 3; } send a x; }", "part b { if y { set x 2; } else { set x 3; } send a x; }", 1},
		{"part b { set x 1; if y { take a x; } else { set x 3; } send a x; }", "part b { if y { take a x; } else { set x 3; } send a x; }", 1},
		{"part b { set x 1; offer a { l { set x 2; } m { } } send a x; }", "", 0},
		{"part b { set x 1; offer a { l { set x 2; } m { take a x; } } send a x; }", "part b { offer a { l { set x 2; } m { take a x; } } send a x; }", 1},
		{"part b { set x 1; offer a { l { send a x; } m { } } }", "", 0},
		// One after the other, until nothing changes any more.
		{"part b { set x 1; set y x; set z y; }", "part b { }", 3},
		{"part b { set x 1; set y x; if y { } else { } }", "part b { }", 3},
		{"part b { if x { set y 1; send a 1; } else { set z 1; send a 1; } }", "part b { send a 1; }", 4},
		{"part b { set u 1; set x u; if x { set y 1; send a 1; } else { set z 1; send a 1; } }", "part b { send a 1; }", 6},
		// A variable that only an ActSet of its own reads again stays.
		{"part b { set x 1; call p 0 (b); } local p 0 (x) { set x x + 1; call p 0 (x); }", "", 0},
		{"part b { call p 0 (b); } local p 0 (x) { set y x; set x y; call p 0 (x); }", "", 0},
		{"part b { call p 0 (b); } local p 0 (x) { set y x; set x 1; set x 2; call p 0 (x); }", "part b { call p 0 (b); } local p 0 (x) { call p 0 (x); }", 3},
	}.check(t)
}

func TestSlimLocals(t *testing.T) { // P6.5: ways through Bodies
	slimmed{
		{"part b { send a 1; } local p 0 (x) { call q 0 (x); } local q 0 (x) { }", "part b { send a 1; }", 1},
		{"part b { if 0 { call p 0 (b); } else { } } local p 0 (x) { call q 0 (x); set v 1; } local q 0 (x) { set v 1; }", "part b { }", 5},
		{"part b { call q 0 (b); } local p 0 (x) { } local q 0 (x) { call r 0 (x); } local r 0 (x) { }", "part b { call q 0 (b); } local q 0 (x) { call r 0 (x); } local r 0 (x) { }", 0},
		{"part b { if x { call p 0 (b); } else { } offer a { l { call q 0 (b); } } } local p 0 (x) { } local q 0 (x) { }", "", 0},
		// Through a Body, and on behind the ActCall.
		{"part b { set v 1; call p 0 (b); send a v; } local p 0 (x) { set w 1; }", "part b { set v 1; call p 0 (b); send a v; } local p 0 (x) { }", 1},
		{"part b { set v 1; call p 0 (b); send a v; } local p 0 (x) { set v 2; }", "part b { call p 0 (b); send a v; } local p 0 (x) { set v 2; }", 1},
		{"part b { set v 1; call p 0 (b); send a v; } local p 0 (x) { if w { set v 2; } else { } }", "", 0},
		{"part b { set v 1; call p 0 (b, a); } local p 0 (x, y) { send y v; }", "", 0},
		{"part b { set v 1; call p 0 (b, a); } local p 0 (x, y) { take y v; send y v; }", "part b { call p 0 (b, a); } local p 0 (x, y) { take y v; send y v; }", 1},
		{"part b { set v 1; call p 0 (b, a); } local p 0 (x, y) { call q 1 (y, x); } local q 1 (y, x) { tell y l; send y v; }", "", 0},
		// What does not end has nothing behind it.
		{"part b { set v 1; call p 0 (b); send a v; } local p 0 (x) { call p 0 (x); }", "part b { call p 0 (b); send a v; } local p 0 (x) { call p 0 (x); }", 1},
		{"part b { set v 1; call p 0 (b); send a v; } local p 0 (x) { if w { call p 0 (x); } else { } }", "", 0},
		// A way that came by an ActCall goes on behind this one: not from the first one to what is behind the second one.
		{"part b { set v 1; call p 0 (b, a); set v 2; call p 0 (b, a); send a v; } local p 0 (x, y) { tell y l; }", "part b { call p 0 (b, a); set v 2; call p 0 (b, a); send a v; } local p 0 (x, y) { tell y l; }", 1},
		// A way that begins within the Body goes on behind any one.
		{"part b { call p 0 (b, a); set v 2; call p 0 (b, a); send a v; } local p 0 (x, y) { set v 1; tell y l; }", "part b { call p 0 (b, a); call p 0 (b, a); send a v; } local p 0 (x, y) { set v 1; tell y l; }", 1},
		{"part b { call p 0 (b, a); set v 2; call p 0 (b, a); } local p 0 (x, y) { set v 1; tell y l; }", "part b { call p 0 (b, a); call p 0 (b, a); } local p 0 (x, y) { tell y l; }", 2},
		{"part b { call p 0 (b, a); send a v; } local p 0 (x, y) { call q 0 (x, y); } local q 0 (x, y) { set v 1; }", "", 0},
		{"part b { call p 0 (b, a); call q 0 (b, a); } local p 0 (x, y) { call q 0 (x, y); send y v; } local q 0 (x, y) { set v 1; }", "", 0},
		{"part b { call p 0 (b, a); send a v; } local p 0 (x, y) { if w { set v 1; } else { call p 0 (x, y); } }", "", 0},
		{"part b { call p 0 (b, a); send a v; } local p 0 (x, y) { if w { set v 1; } else { call p 0 (x, y); set v 2; } }", "", 0},
		{"part b { call p 0 (b, a); } local p 0 (x, y) { if w { set v 1; } else { call p 0 (x, y); send y v; } }", "", 0},
		// What is found out about a Local in a ring matters to all that call it, also if they were looked at before.
		{"part b { call p 0 (b, a); set v 1; call q 0 (b, a); send a v; } local p 0 (x, y) { if w { call q 0 (x, y); } else { } } local q 0 (x, y) { call p 0 (x, y); }", "", 0},
		{"part b { call r 0 (b, a); set v 1; call p 0 (b, a); } local p 0 (x, y) { if w { call q 0 (x, y); } else { } } local q 0 (x, y) { if w { call r 0 (x, y); } else { } } local r 0 (x, y) { if w { call p 0 (x, y); } else { } send y v; }", "", 0},
		// The ActCalls of a Local that is not called do not count.
		{"part b { call q 0 (b, a); } local p 0 (x, y) { call q 0 (x, y); send y v; } local q 0 (x, y) { set v 1; }", "part b { call q 0 (b, a); } local q 0 (x, y) { }", 3},
		// Those behind something that never ends do.
		{"part b { call p 0 (b, a); call q 0 (b, a); send a v; } local p 0 (x, y) { call p 0 (x, y); } local q 0 (x, y) { set v 1; }", "", 0},
		// Recursion that is not last: on behind its own ActCall.
		{"part b { call p 0 (b, a); } local p 0 (x, y) { set v 1; if w { call p 0 (x, y); } else { } send y v; }", "", 0},
		{"part b { call p 0 (b, a); } local p 0 (x, y) { take y v; if v { call p 0 (x, y); } else { } set u 5; send y u; set u 6; }", "part b { call p 0 (b, a); } local p 0 (x, y) { take y v; if v { call p 0 (x, y); } else { } set u 5; send y u; }", 1},
	}.check(t)
}

func TestSlimErrors(t *testing.T) { // P6.5, Z3
	q, n, err := part.Slim(api.Part{Role: "b", Main: []api.Act{{Kind: api.ActSet, Var: "v"}}})
	same(t, "no part", []any{q, n, err}, []any{api.Part{}, 0, api.ErrKind})
}

// seen is what others can see of a drive.
func seen(d api.Drive) string {
	d.Events = slices.DeleteFunc(slices.Clone(d.Events), func(e api.Event) bool { return e.Kind == api.ActSet || e.Kind == api.ActIf })
	d.Vars = nil
	return fmt.Sprint(d)
}

func TestSlimPartsDoTheSame(t *testing.T) { // what follows from P6.5
	d := &dice{15}
	ran := 0
	for range tries {
		p := d.part()
		q, n, _ := part.Slim(p)
		same(t, "slim", []any{part.CheckPart(q), len(allOf(p)) - n}, []any{api.OK, len(allOf(q))})
		for range 3 {
			v, l := slots(fmt.Sprintf("u=%d v=%d w=%d", d.roll(3), d.roll(2), d.roll(3))), d.mail(10)
			first, err := part.Run(p, v, l, 500)
			if err != api.OK {
				continue
			}
			second, err := part.Run(q, v, l, 500)
			same(t, fmt.Sprint(words(t, p), " with ", v, " on ", l), []any{seen(second), err}, []any{seen(first), api.OK})
			ran++
		}
	}
	if ran < tries {
		t.Errorf("only %d runs", ran)
	}
}

// chain is a part whose ActSets are needed by one another, the last one by nothing, so that they can be left out one by one.
func chain(n int, form string) string {
	var b strings.Builder
	for i := n; i > 0; i-- {
		fmt.Fprintf(&b, form, i, i-1)
	}
	return b.String()
}

func TestSlimTakesManyTurns(t *testing.T) { // P6.5
	for s, less := range map[string]int{
		"part b { call p 0 (b); } local p 0 (x) { " + chain(1500, "set v%d v%d; ") + "call p 0 (x); }":                                             1500,
		"part b { " + chain(40, "call p%d 0 (b); call p%d 0 (b); ") + "call p0 0 (b); }" + chain(41, " local p%[2]d 0 (x) { set v%[1]d v%[2]d; }"): 41,
	} {
		q, n, err := part.Slim(read(t, s))
		left := slices.ContainsFunc(allOf(q), func(a api.Act) bool { return a.Kind == api.ActSet })
		if n != less || err != api.OK || left {
			t.Errorf("%s: %d less, error %d", short(s), n, err)
		}
	}
}
