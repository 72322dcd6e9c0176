package net_test

import (
	"fmt"
	"strings"
	"testing"

	"promptbook/api"
	"promptbook/net"
)

// stateText is a state, as in "a: send b x; | x=1 | a>b: 1": the rests, the variables and the queues.
func stateText(t *testing.T, s api.State) string {
	var rests, vars []string
	for _, n := range s.Nodes {
		rests = append(rests, strings.TrimSpace(n.Role+":"+rest(t, n.Role, n.Rest)))
		for _, v := range n.Vars {
			vars = append(vars, fmt.Sprint(n.Role, ".", v.Name, "=", v.Value))
		}
	}
	return strings.Join([]string{strings.Join(rests, " "), strings.Join(vars, " "), queuesText(s.Queues)}, " | ")
}

func TestReach(t *testing.T) { // P7.1, P7.2
	const choice = "part a { if x { set y 1; } else { set y 2; } set z y; }"
	const offers = "part a { offer b { l { set x 1; } m { send b x; } } set y 1; } part b { tell a l; tell a m; tell a n; send a 0; } "
	const rings = "part a { call p 1 (b, a, c); send b 1; } local p 1 (x, y, z) { send x 1; if v { tell z l; } else { offer z { l { take x v; } } } call q 2 (z, x, y); } local q 2 (a, c, b) { tell a m; tell c m; call p 1 (a, b, c); } "
	for _, c := range []struct{ p, s, moves, state, events string }{
		{"part a { }", "", "", "a: |  | ", ""},
		{"part a { } part b { }", "a x 1, b y 2", "", "a: b: | a.x=1 b.y=2 | ", ""},
		{example, "", "", "a: send b 1; take b y; b: send a 2; take a x; |  | ", ""},
		{example, "", "a b a", "a: b: take a x; | a.y=2 | a>b: 1", "a send b 1, b send a 2, a take b y 2"},
		{example, "", "b", "a: send b 1; take b y; b: take a x; |  | b>a: 2", "b send a 2"},
		// The value of a variable that is not there is 0; one that becomes 0 is not told.
		{"part a { send b x; set x x - 1; send b x; set x x + 1; } part b { take a y; }", "b y 5", "a", "a: set x x - 1; send b x; set x x + 1; b: take a y; | b.y=5 | a>b: 0", "a send b 0"},
		{"part a { send b x; set x x - 1; send b x; set x x + 1; } part b { take a y; }", "b y 5", "a b a a", "a: set x x + 1; b: | a.x=999 | a>b: 999", "a send b 0, b take a y 0, a set x 999, a send b 999"},
		{"part a { send b x; set x x - 1; send b x; set x x + 1; } part b { take a y; }", "b y 5", "a a a a", "a: b: take a y; | b.y=5 | a>b: 0 999", "a send b 0, a set x 999, a send b 999, a set x 0"},
		{choice, "a x 2", "a", "a: set y 1; set z y; | a.x=2 | ", "a if 1"},
		{choice, "", "a a a", "a: | a.y=2 a.z=2 | ", "a if 0, a set y 2, a set z 2"},
		{"part a { if 1 { } else { } set x 1; }", "", "a", "a: set x 1; |  | ", "a if 1"},
		// Letters go from the front; what does not fit stays.
		{offers, "", "b b b b", "a: offer b { l { set x 1; } m { send b x; } } set y 1; b: |  | b>a: l m n 0", "b tell a l, b tell a m, b tell a n, b send a 0"},
		{offers, "", "b b a", "a: set x 1; set y 1; b: tell a n; send a 0; |  | b>a: m", "b tell a l, b tell a m, a offer b l"},
		{offers, "", "b a a a", "a: b: tell a m; tell a n; send a 0; | a.x=1 a.y=1 | ", "b tell a l, a offer b l, a set x 1, a set y 1"},
		{"part a { offer b { l { } m { send b x; } } set y 1; } part b { tell a m; }", "a x 4", "b a", "a: send b x; set y 1; b: | a.x=4 | ", "b tell a m, a offer b m"},
		// Queues from each role to each other one.
		{"part a { take c x; take b x; } part b { send a 1; send c 2; } part c { send a 3; take b y; }", "", "b b c c a", "a: take b x; b: c: | a.x=3 c.y=2 | b>a: 1", "b send a 1, b send c 2, c send a 3, c take b y 2, a take c x 3"},
		{"part b { send c 1; send a 2; tell c l; } part c { send a 3; send b 4; }", "", "c b c b b", "b: c: |  | b>a: 2, b>c: 1 l, c>a: 3, c>b: 4", "c send a 3, b send c 1, c send b 4, b send a 2, b tell c l"}, // there is no part of a
		// Params stand for Args, in calls, too.
		{rings, "a v 1", "", "a: tell call p_i1_b_a_c; send b 1; | a.v=1 | ", ""},
		{rings, "a v 1", "a", "a: send b 1; if v { tell c l; } else { offer c { l { take b v; } } } tell call q_i2_c_b_a; send b 1; | a.v=1 | ", ""},
		{rings, "a v 1", "a a a a a", "a: tell c m; tell b m; tell call p_i1_c_a_b; send b 1; | a.v=1 | a>b: 1, a>c: l", "a send b 1, a if 1, a tell c l"},
		{rings, "a v 1", "a a a a a a a a", "a: send c 1; if v { tell b l; } else { offer b { l { take c v; } } } tell call q_i2_b_c_a; send b 1; | a.v=1 | a>b: 1 m, a>c: l m", "a send b 1, a if 1, a tell c l, a tell c m, a tell b m"},
		{"part a { call p 0 (a); set y 1; } local p 0 (x) { }", "", "a", "a: set y 1; |  | ", ""},
		{"part a { call p 0 (a); set y 1; } local p 0 (x) { call p 0 (x); set x 1; }", "", "a a a", "a: tell call p_i0_a; set x 1; set x 1; set x 1; set y 1; |  | ", ""},
	} {
		s, events, err := net.Reach(read(t, c.p), stores(t, c.s), strings.Fields(c.moves))
		same(t, c.p+" "+c.moves, []any{stateText(t, s), eventsText(events), err}, []any{c.state, c.events, api.OK})
	}
}

func TestAble(t *testing.T) { // P7.1, P7.2
	const deals = "part a { take b x; offer c { l { } } } part b { tell a l; send a 1; } part c { tell a m; }"
	const others = "part a { take b x; offer c { l { } n { } } send c 1; } part b { send a 0; } part c { tell a n; take a y; }"
	for _, c := range []struct{ p, moves, want string }{
		{"part a { }", "", ""}, {example, "", "a b"}, {example, "a", "b"}, {example, "b", "a"}, {example, "a b", "a b"}, {example, "a b a", "b"}, {example, "a b a b", ""},
		{deals, "", "b c"}, {deals, "b", "b c"}, {deals, "b b", "c"}, {deals, "b b c", ""}, // a label is no value, and stays in front of one
		{others, "", "b c"}, {others, "c", "b"}, {others, "c b", "a"}, {others, "b", "a c"}, {others, "b a", "c"}, {others, "b a c", "a"}, {others, "b a c a", "a"}, {others, "b a c a a", "c"},
		{"part a { offer b { l { } } } part b { send a 0; }", "b", ""}, {"part a { offer b { l { } } } part b { tell a m; tell a l; }", "b b", ""}, {"part a { offer b { l { } n { } } } part b { tell a m; }", "b", ""},
		{"part a { take c x; } part b { send a 1; } part c { send b 1; }", "b c", ""}, {"part a { take c x; } part b { set x 1; }", "b", ""}, {"part a { send c 1; } part b { if x { } else { } }", "", "a b"},
		{"part a { call p 0 (a); } local p 0 (x) { call p 0 (x); } part b { call p 1 (a, b); } local p 1 (x, y) { take x v; }", "a a a b", "a"},
	} {
		got, err := net.Able(read(t, c.p), nil, strings.Fields(c.moves))
		same(t, c.p+" "+c.moves, []any{strings.Join(got, " "), err}, []any{c.want, api.OK})
	}
}

func TestRun(t *testing.T) { // P7.2
	three := "part a { set x 1; set x 2; set x 3; } part b { set y 1; } part c { set z 1; set z 2; }"
	stuck := "part a { send b 1; tell b l; } part b { take a x; take a x; } part c { take a x; set x 2; } part d { send a 0; }"
	for _, c := range []struct {
		p, s                           string
		choices                        []int
		last, events, busy, left, turn string
	}{
		{example, "", []int{1, 0}, "a y 2, b x 1", "b send a 2, a send b 1, b take a x 1, a take b y 2", "", "", "a b a b"},
		{example, "", []int{0}, "a y 2, b x 1", "a send b 1, b send a 2, a take b y 2, b take a x 1", "", "", "a b a b"},
		{three, "b v 7", []int{0}, "a x 3, b v 7, b y 1, c z 2", "a set x 1, a set x 2, a set x 3, b set y 1, c set z 1, c set z 2", "", "", "a b c a c a"},
		{three, "", []int{2}, "a x 3, b y 1, c z 2", "c set z 1, c set z 2, a set x 1, a set x 2, a set x 3, b set y 1", "", "", "a b c a c a"},
		{three, "", []int{1000, 2, 4}, "a x 3, b y 1, c z 2", "b set y 1, a set x 1, a set x 2, a set x 3, c set z 1, c set z 2", "", "", "a b c a c a"},
		{three, "", []int{1, 2, 1, 0, 1}, "a x 3, b y 1, c z 2", "b set y 1, a set x 1, c set z 1, a set x 2, c set z 2, a set x 3", "", "", "a b c a c a"},
		{stuck, "c x 9", []int{0}, "b x 1, c x 9", "a send b 1, a tell b l, b take a x 1, d send a 0", "b c", "a>b: l, d>a: 0", "a b d a"},
		{stuck, "", []int{7, 8}, "b x 1", "d send a 0, a send b 1, b take a x 1, a tell b l", "b c", "a>b: l, d>a: 0", "a b d a"},
		{"part a { }", "a x 1", []int{3}, "a x 1", "", "", "", ""},
		{"part a { take b x; }", "", []int{3}, "", "", "a", "", ""},
		{"part a { send c 1; tell b l; send c 2; }", "", []int{3}, "", "a send c 1, a tell b l, a send c 2", "", "a>b: l, a>c: 1 2", "a a a"},
		{"part a { set x 0; }", "a x 1", []int{3}, "", "a set x 0", "", "", "a"},
	} {
		p, s := read(t, c.p), stores(t, c.s)
		last, events, names, err := net.Run(p, s, c.choices, 100)
		left, leftErr := net.Left(p, s, c.choices, 100)
		got := []any{storesText(last), eventsText(events), strings.Join(names, " "), err, queuesText(left), leftErr}
		same(t, fmt.Sprint(c.p, c.choices), got, []any{c.last, c.events, c.busy, api.OK, c.left, api.OK})
		names, err = net.Turns(p, s, 100)
		same(t, c.p, []any{strings.Join(names, " "), err}, []any{c.turn, api.OK})
	}
}

func TestTurns(t *testing.T) { // P7.2
	for s, want := range map[string]string{
		"part a { set x 1; set x 2; } part b { take c x; } part c { set x 1; send b 2; }":                                                "a c a c b",
		"part a { take b x; set x 1; set x 2; } part b { take c x; send a 1; } part c { send b 2; set x 1; set x 2; }":                   "c b c b c a a a",
		"part a { call p 0 (a); call p 0 (a); } local p 0 (x) { set x 1; } part b { call p 0 (b); } local p 0 (x) { if x { } else { } }": "a b a b a a",
		"part a { take b x; } part b { take a x; }":                                                                                      "",
	} {
		got, err := net.Turns(read(t, s), nil, 100)
		same(t, s, []any{strings.Join(got, " "), err}, []any{want, api.OK})
	}
}

func TestMost(t *testing.T) { // P7.2
	for s, want := range map[string]int{
		example: 4, "part a { set x 1; }": 1, "part a { call p 0 (a); call p 0 (a); } local p 0 (x) { set x 1; if x { set y 1; } else { } }": 8, "part a { send b 1; take b x; } part b { }": 1,
	} {
		p := read(t, s)
		for most := 1; most < 10; most++ {
			_, _, _, err := net.Run(p, nil, []int{5, 0, 1}, most)
			_, leftErr := net.Left(p, nil, []int{5, 0, 1}, most)
			_, turnsErr := net.Turns(p, nil, most)
			wantErr := api.OK
			if most < want {
				wantErr = api.ErrFull
			}
			same(t, fmt.Sprint(s, most), []any{err, leftErr, turnsErr}, []any{wantErr, wantErr, wantErr})
		}
	}
}
