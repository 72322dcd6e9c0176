package net_test

import (
	"fmt"
	"strings"
	"testing"

	"promptbook/api"
	"promptbook/net"
)

// later needs room: c tells b only when a has sent 1 and 2.
const later = "part a { send b 1; send b 2; tell c l; } part b { offer c { l { take a x; take a y; } } } part c { offer a { l { tell b l; } } }"

// forgetful are a that sends 5 and then 1 for ever, and b that takes all and keeps nothing.
const forgetful = "part a { send b 5; call p 0 (a, b); } local p 0 (x, y) { send y 1; call p 0 (x, y); } part b { call q 1 (a, b); } local q 1 (x, y) { take x v; set v 0; call q 1 (x, y); }"

func TestExplore(t *testing.T) { // P7.3
	for _, c := range []struct {
		p, s string
		room int
		want api.Explored
	}{
		{"part a { }", "a x 1", 0, api.Explored{States: 1, Ends: 1}},
		{"part a { set x 0; }", "", 0, api.Explored{States: 2, Moves: 1, Ends: 1}},
		{"part a { set x 1; set x 2; } part b { set x 1; } part c { }", "", 0, api.Explored{States: 6, Moves: 7, Ends: 1}},
		{example, "", 0, api.Explored{States: 7, Moves: 8, Ends: 1, Longest: 1}}, {example, "", 1, api.Explored{States: 7, Moves: 8, Ends: 1, Longest: 1}}, {example, "a y 2, b x 1", api.MaxRoom, api.Explored{States: 7, Moves: 8, Ends: 1, Longest: 1}},
		{"part a { take b x; } part b { take a x; }", "", 0, api.Explored{States: 1, Deads: 1}},
		{"part a { send b 1; } part b { }", "", 0, api.Explored{States: 2, Moves: 1, Deads: 1, Longest: 1}}, {"part a { tell c l; tell c m; }", "", 0, api.Explored{States: 3, Moves: 2, Deads: 1, Longest: 2}}, // all have ended, but a letter is left
		{"part a { tell c l; tell c m; }", "", 1, api.Explored{States: 2, Moves: 1, Deads: 1, Longest: 1}}, {"part a { tell c l; tell c m; }", "", 2, api.Explored{States: 3, Moves: 2, Deads: 1, Longest: 2}},
		{later, "", 0, api.Explored{States: 9, Moves: 8, Ends: 1, Longest: 2}}, {later, "", 1, api.Explored{States: 2, Moves: 1, Deads: 1, Longest: 1}}, {later, "", 2, api.Explored{States: 9, Moves: 8, Ends: 1, Longest: 2}},
		// The same state again.
		{"part a { call p 0 (a); } local p 0 (x) { call p 0 (x); }", "", 0, api.Explored{States: 1, Moves: 1}},
		{"part a { call p 0 (a, b, c); } local p 0 (x, y, z) { call p 0 (x, z, y); }", "", 0, api.Explored{States: 2, Moves: 2}},
		{"part a { call p 0 (a); } local p 0 (x) { set v v + 1; call p 0 (x); }", "", 0, api.Explored{States: 2000, Moves: 2000}},
		{"part a { call p 0 (a); } local p 0 (x) { set v v + 1; call p 0 (x); }", "a u 1, a v 7", 0, api.Explored{States: 2000, Moves: 2000}}, // v is 0, and then is not there
		{"part a { call p 0 (a); } local p 0 (x) { set v 1 - v; call q 0 (x); } local q 0 (y) { set v 1 - v; call q 0 (y); }", "", 0, api.Explored{States: 5, Moves: 5}},
		{"part a { call p 0 (a); } local p 0 (x) { set v 1 - v; if v { set u 1; call q 0 (x); } else { } } local q 0 (y) { set v 1 - v; set u 1; call q 0 (y); }", "", 0, api.Explored{States: 10, Moves: 10}},
		{"part a { call p 0 (a); set x 1; } local p 0 (x) { call q 0 (x); } local q 0 (x) { }", "", 0, api.Explored{States: 4, Moves: 3, Ends: 1}},
		{"part a { call p 0 (a); set v 1; call p 0 (a); } local p 0 (x) { }", "a v 1", 0, api.Explored{States: 4, Moves: 3, Ends: 1}},
		// Queues with the same letters, but from others, are the same; one with another letter is not.
		{forgetful, "", 1, api.Explored{States: 22, Moves: 35, Longest: 1}},
		{strings.Replace(forgetful, "send b 5", "send b 1", 1), "", 1, api.Explored{States: 12, Moves: 19, Longest: 1}},
	} {
		p, s := read(t, c.p), stores(t, c.s)
		told, err := net.Explore(p, s, c.room, api.MaxStates)
		want, ok := search(p, s, c.room, api.MaxStates)
		same(t, fmt.Sprint(c.p, c.room), []any{told, err, want.told, ok}, []any{c.want, api.OK, c.want, true})
	}
}

func TestEqualRests(t *testing.T) { // P7.3
	// The first time x is done, and then always y; neither is ever done in earnest. If they are equal, all is the same again from the beginning.
	explored := func(x, y string) api.Explored {
		const act = "set v 0; if 0 { %s } else { } call r 0 (a, b, c); "
		told, err := net.Explore(read(t, fmt.Sprintf("part a { "+act+"} local r 0 (a, b, c) { "+act+"} local q 0 (a, b, c) { } local r 1 (a, b, c) { } ", x, y)), nil, 0, 10)
		if err != api.OK {
			t.Fatal(x, y, err)
		}
		return told
	}
	acts := strings.Split("|send b 1;|send c 1;|send b 2;|send b v;|send b w;|send b !v;|send b v + 1;|send b 1 + v;|send b v - 1;|send b v + 1 + 1;|send b v + (1 + 1);|take b v;|take b w;|take c v;|tell b v;|tell b w;|tell c v;|set v 1;|set w 1;|set v 2;|set w v;"+
		"if v { } else { }|if w { } else { }|if v { set v 1; } else { }|if v { } else { set v 1; }|if v { set v 1; } else { set v 1; }|if v { set v 2; } else { }|if v { set v 1; set v 1; } else { }|if v { } else { } set v 1;|if v { if v { } else { } } else { }|"+
		"offer b { l { } }|offer c { l { } }|offer b { m { } }|offer b { l { } m { } }|offer b { l { set v 1; } m { } }|offer b { l { } m { set v 1; } }|offer b { l { tell b m; } m { } }|offer b { l { } } set v 1;|"+
		"call r 0 (a, b, c);|call r 0 (a, c, b);|call r 0 (a, d, b);|call q 0 (a, b, c);|call q 0 (a, c, b);|call r 1 (b, a, c);|call r 0 (a, b, c); call r 0 (a, b, c);", "|")
	for i, x := range acts {
		for k, y := range acts {
			if strings.Contains(y, "d") && strings.HasPrefix(y, "call") {
				continue // in a Local there is no d
			}
			want := api.Explored{States: 5, Moves: 5}
			if i == k {
				want = api.Explored{States: 3, Moves: 3}
			}
			same(t, fmt.Sprint("first ", x, ", then ", y), explored(x, y), want)
		}
	}
}

func TestMostStates(t *testing.T) { // P7.3
	// A counter has 2,000 states.
	const counter = "part a { call p 0 (a); } local p 0 (x) { set v v + 1; call p 0 (x); } "
	sets := func(n int) string { return "part b { " + strings.Repeat("set x 1; ", n) + "}" }
	for s, states := range map[string]int{
		example: 7, counter: 2_000, counter + sets(2): 6_000, counter + sets(9): api.MaxStates, counter + sets(10): api.MaxStates + 2_000,
		"part a { call p 0 (a, b); } local p 0 (x, y) { tell y l; call p 0 (x, y); }": api.MaxStates + 1, // a letter more each time
		"part a { call p 0 (a); } local p 0 (x) { call p 0 (x); set v 1; }":           api.MaxStates + 1, // an act more each time
	} {
		p := read(t, s)
		for _, most := range []int{1, states - 1, states, api.MaxStates} {
			if most > api.MaxStates {
				continue
			}
			want := api.OK
			if most < states {
				want = api.ErrFull
			}
			_, err := net.Explore(p, nil, 0, most)
			_, _, deadErr := net.Dead(p, nil, 0, most)
			_, endsErr := net.Ends(p, nil, most)
			same(t, fmt.Sprint(most, s), []any{err, deadErr, endsErr}, []any{want, want, want})
		}
	}
}

func TestDead(t *testing.T) { // P7.3
	for _, c := range []struct {
		p, s string
		room int
		want string
		is   bool
	}{
		{example, "", 0, "", false}, {example, "", 1, "", false}, {"part a { }", "", 0, "", false},
		{"part a { take b x; } part b { take a x; }", "", 0, "", true}, {"part a { send b 1; } part b { }", "", 0, "a", true}, {"part a { send c 1; }", "", 0, "a", true},
		{"part a { send b 1; take b y; send b 3; } part b { take c x; } part c { take b x; }", "", 0, "a", true},
		{"part a { set x 1; take c y; } part b { set x 1; } part c { take a x; }", "", 0, "a b", true},
		{"part a { set x 1; set x 1; take c y; } part b { set x 1; } part c { set x 1; take a x; }", "", 0, "a a b c", true},
		{"part a { take b x; set y 1; take c z; } part b { send a 1; set y 1; } part c { take b x; }", "", 0, "b a a b", true},
		{"part a { if x { take b x; } else { } send b 1; } part b { take a y; }", "", 0, "", false}, {"part a { if x { take b x; } else { } send b 1; } part b { take a y; }", "a x 1", 0, "a", true},
		{later, "", 0, "", false}, {later, "", 1, "a", true}, {later, "", 2, "", false}, {later, "", api.MaxRoom, "", false},
		{"part a { offer b { l { } } } part b { tell a m; }", "", 0, "b", true}, {"part a { take b x; } part b { tell a m; }", "", 0, "b", true}, {"part a { offer b { l { } } } part b { send a 0; }", "", 0, "b", true},
		{"part a { call p 0 (a); } local p 0 (x) { call p 0 (x); } part b { take a x; }", "", 0, "", false}, // it never stands still
		{forgetful, "", 1, "", false},
	} {
		got, is, err := net.Dead(read(t, c.p), stores(t, c.s), c.room, api.MaxStates)
		same(t, fmt.Sprint(c.p, c.room), []any{strings.Join(got, " "), is, err}, []any{c.want, c.is, api.OK})
	}
}

func TestEnds(t *testing.T) { // P7.3
	for _, c := range []struct {
		p, s string
		want []string
	}{
		{"part a { }", "", []string{""}}, {"part a { } part b { }", "a x 1, b y 2, b z 3", []string{"a x 1, b y 2, b z 3"}},
		{example, "", []string{"a y 2, b x 1"}}, {"part a { set x 1; } part b { set y 0; }", "b y 2", []string{"a x 1"}},
		{"part a { set x 1; take b y; } part b { set y 3; take a x; }", "", []string{"a x 1, b y 3"}}, // those of Deads, too
		{"part a { send b 1; } part b { }", "b y 2", []string{"b y 2"}},
		{"part a { call p 0 (a); } local p 0 (x) { call p 0 (x); }", "a x 1", nil},
		{later, "", []string{"b x 1, b y 2"}}, // there is room for any number of letters
	} {
		got, err := net.Ends(read(t, c.p), stores(t, c.s), api.MaxStates)
		var l []string
		for _, one := range got {
			l = append(l, storesText(one))
		}
		same(t, c.p, []any{len(l), l, err}, []any{len(c.want), c.want, api.OK})
	}
}

func TestAlike(t *testing.T) { // P7.3
	const loop = "part a { call p 0 (a); } local p 0 (x) { call p 0 (x); } part b { }"
	for _, c := range []struct {
		p, q, s string
		want    bool
	}{
		{example, example, "", true}, {example, "part a { set y 2; } part b { set x 1; }", "", true}, {example, "part a { set y 2; } part b { set x 1; } part c { }", "", true},
		{example, "part a { set y 2; } part b { set x 2; }", "", false}, {example, "part a { set y 2; } part b { set z 1; }", "", false}, {example, "part a { set y 2; }", "", false}, {example, "part a { set y 2; set x 1; } part b { set x 1; }", "", false}, {example, "part a { set y 2; } part c { set x 1; }", "", false},
		{"part a { set x 1; }", "part a { set x x; }", "", false}, {"part a { set x 1; }", "part a { set x x; }", "a x 1", true},
		{loop, loop, "", true}, {loop, "part a { }", "", false}, {"part a { }", loop, "", false}, {"part a { }", "part b { take a x; }", "", true}, {loop, "part a { call p 0 (a); } local p 0 (x) { set v 1 - v; call p 0 (x); }", "a x 5", true},
	} {
		got, err := net.Alike(read(t, c.p), read(t, c.q), stores(t, c.s), api.MaxStates)
		same(t, fmt.Sprint(c.p, c.q, c.s), []any{got, err}, []any{c.want, api.OK})
	}
}
