package part_test

import (
	"fmt"
	"strings"
	"testing"

	"promptbook/api"
	"promptbook/part"
	"promptbook/project"
	"promptbook/run"
	"promptbook/script"
)

// driven is a drive in words: the state, with whom, how many were taken, the events without their Role, and the variables.
func driven(d api.Drive) string {
	text, _ := run.EventsText(d.Events)
	var events []string
	for _, line := range strings.Split(text, "\n") {
		_, rest, _ := strings.Cut(line, " ")
		events = append(events, rest)
	}
	return fmt.Sprint(d.State, " ", d.With, " ", d.Taken, " ", strings.Join(events, ", "), d.Vars)
}

func TestRun(t *testing.T) { // P6.4
	for _, c := range []struct{ s, v, heard, want string }{
		{"part b { }", "", "", "1  0 []"},
		{"part b { }", "x=1 y=0 z=3", "a:1", "1  0 [{x 1} {z 3}]"},
		{example, "", "a:7", "1  1 take a x 7, set y 7, if 1, send a 7, [{x 7} {y 7}]"},
		{example, "x=5 y=5", "", "2 a 0 [{x 5} {y 5}]"},
		{example, "", "c:1", "2 a 0 []"},
		{example, "", "a:yes a:1", "3 a 0 []"},
		{example, "", "a:0 a:yes", "1  1 take a x 0, set y 0, if 1, send a 0, []"},
		{"part b { take a x; take c y; take a z; }", "", "a:1 a:2 c:3", "1  3 take a x 1, take c y 3, take a z 2, [{x 1} {y 3} {z 2}]"},
		{"part b { take a x; take c y; take a z; }", "", "c:3 a:1", "2 a 2 take a x 1, take c y 3, [{x 1} {y 3}]"},
		{"part b { take a x; take c y; take a z; }", "z=4", "c:l a:1 a:l", "3 c 1 take a x 1, [{x 1} {z 4}]"},
		{"part b { offer a { l { set x 1; } m { set y 1; } } set z 1; }", "", "a:m", "1  1 offer a m, set y 1, set z 1, [{y 1} {z 1}]"},
		{"part b { offer a { l { set x 1; } m { } } set z 1; }", "", "a:l", "1  1 offer a l, set x 1, set z 1, [{x 1} {z 1}]"},
		{"part b { offer a { l { } m { } } }", "", "a:k", "3 a 0 []"}, {"part b { offer a { l { } n { } } }", "", "a:m", "3 a 0 []"}, {"part b { offer a { l { } m { } } }", "", "a:n", "3 a 0 []"},
		{"part b { offer a { l { } m { } } }", "", "a:1", "3 a 0 []"}, {"part b { offer a { l { } m { } } }", "", "a:0 a:l", "3 a 0 []"}, {"part b { offer a { l { } } }", "", "c:l", "2 a 0 []"},
		{"part b { tell a l; send a x; send c x + 1; }", "x=999", "", "1  0 tell a l, send a 999, send c 0, [{x 999}]"},
		{"part b { if x { set y 1; } else { set y 2; } set z y; }", "x=2", "", "1  0 if 1, set y 1, set z 1, [{x 2} {y 1} {z 1}]"},
		{"part b { if x { set y 1; } else { set y 2; } set z y; }", "", "", "1  0 if 0, set y 2, set z 2, [{y 2} {z 2}]"},
		{"part b { set x 0; set x x - 1; set y 3; set y 0; }", "x=5", "", "1  0 set x 0, set x 999, set y 3, set y 0, [{x 999}]"},
		// Params stand for Args, also in calls, and for With.
		{"part b { call p 1 (a, b, c); send d v; } local p 1 (c, x, a) { take c v; take a w; call q 0 (x, c); } local q 0 (a, b) { tell b l; set b 2; }", "", "c:1 a:2", "1  2 take a v 2, take c w 1, tell a l, set b 2, send d 2, [{b 2} {v 2} {w 1}]"},
		{"part b { call p 1 (a, b); } local p 1 (x, y) { take x v; if v { call p 1 (x, y); } else { } tell x l; }", "", "a:1 a:1 a:0 a:5", "1  3 take a v 1, if 1, take a v 1, if 1, take a v 0, if 0, tell a l, tell a l, tell a l, []"},
		{"part b { call p 1 (a, b); } local p 1 (x, y) { take x v; call p 1 (x, y); }", "", "a:1 a:2", "2 a 2 take a v 1, take a v 2, [{v 2}]"},
		{"part b { call p 1 (a, b); } local p 1 (x, y) { offer x { l { call p 0 (y, x); } } } local p 0 (x, y) { take y v; }", "", "a:l a:2", "1  2 offer a l, take a v 2, [{v 2}]"},
	} {
		d, err := part.Run(read(t, c.s), slots(c.v), heard(c.heard), 100)
		if got := driven(d); got != c.want || err != api.OK {
			t.Errorf("%s with %s on %s: got %s, error %d, want %s", c.s, c.v, c.heard, got, err, c.want)
		}
		for _, e := range d.Events {
			same(t, "role", e.Role, "b")
		}
	}
}

func TestFuel(t *testing.T) { // P6.4
	for s, want := range map[string]int{
		"part b { }": 0, example: 4, "part b { set x 1; set x 1; }": 2, "part b { tell a l; send a 1; if 1 { } else { } }": 3,
		"part b { call p 0 (b); call p 0 (b); } local p 0 (x) { set v 1; }":           4,
		"part b { take a x; take a x; set y 1; }":                                     1, // it stops ahead of the second take
		"part b { take a x; offer a { l { } } set y 1; }":                             1,
		"part b { take c x; set y 1; }":                                               0,
		"part b { set y 1; offer a { l { } } }":                                       1, // what is heard does not fit
		"part b { set y 1; call p 0 (b, c); } local p 0 (x, y) { take y v; }":         2,
		"part b { call p 0 (b, a); } local p 0 (x, y) { take y v; call p 0 (x, y); }": 3,
	} {
		p := read(t, s)
		for fuel := range 6 {
			d, err := part.Run(p, nil, heard("a:1"), fuel)
			if fuel < want {
				same(t, fmt.Sprint(s, fuel), []any{d, err}, []any{api.Drive{}, api.ErrFull})
			} else if err != api.OK || d.State == 0 {
				t.Errorf("%s with %d: error %d", s, fuel, err)
			}
		}
	}
	loop := read(t, "part b { call p 0 (b); } local p 0 (x) { set v v + 1; call p 0 (x); }")
	for _, fuel := range []int{0, 1, api.MaxFuel} {
		_, err := part.Run(loop, nil, nil, fuel)
		same(t, fmt.Sprint("loop", fuel), err, api.ErrFull)
	}
	most := read(t, "part b { "+strings.Repeat("call p 0 (b); ", 100)+"} local p 0 (x) { "+strings.Repeat("set v v + 1; ", 99)+"}")
	d, err := part.Run(most, nil, nil, api.MaxFuel)
	same(t, "MaxFuel acts", []any{d.State, len(d.Events), d.Vars, err}, []any{1, 9900, "[{v 900}]", api.OK})
	_, err = part.Run(most, nil, nil, api.MaxFuel-1)
	same(t, "one less", err, api.ErrFull)
}

func TestRunErrors(t *testing.T) { // P6.4, Z4
	many := make([]api.Heard, api.MaxHeard+1)
	for i := range many {
		many[i] = api.Heard{With: "a", Value: 1}
	}
	slotsOver := make([]api.Slot, api.MaxSlots+1)
	ok := heard("a:1")
	bad := func(h api.Heard) []api.Heard { return []api.Heard{{With: "a", Value: 7}, {With: "c", Label: "l"}, h} }
	p := read(t, example)
	for i, c := range []struct {
		p     api.Part
		v     []api.Slot
		heard []api.Heard
		fuel  int
		want  api.Errno
	}{
		{p, nil, ok, 4, api.OK}, {api.Part{}, slotsOver, many, -1, api.ErrName}, {p, slotsOver, many, -1, api.ErrLarge}, {p, slots("Y=1000"), many, -1, api.ErrName}, {p, slots("y=1000"), many, -1, api.ErrArg}, {p, slots("y=1 x=1"), many, -1, api.ErrOrder}, {p, slots("x=1 x=1"), many, -1, api.ErrOrder}, {p, slots("x=-1"), nil, 5, api.ErrArg},
		{p, nil, many, -1, api.ErrLarge}, {p, nil, many[1:], 9, api.OK}, {p, nil, many[1:], -1, api.ErrArg},
		{p, nil, bad(api.Heard{With: "A", Label: "L", Value: 1000}), -1, api.ErrName}, {p, nil, bad(api.Heard{}), 9, api.ErrName}, {p, nil, bad(api.Heard{With: "b", Label: "L"}), 9, api.ErrTwice}, {p, nil, bad(api.Heard{With: "a", Label: "L", Value: 1000}), 9, api.ErrName}, {p, nil, bad(api.Heard{With: "a", Label: "if"}), 9, api.ErrName},
		{p, nil, bad(api.Heard{With: "a", Label: "l", Value: 1000}), 9, api.ErrForm}, {p, nil, bad(api.Heard{With: "a", Label: "l", Value: 1}), 9, api.ErrForm}, {p, nil, bad(api.Heard{With: "a", Label: "l", Value: -1}), 9, api.ErrForm},
		{p, nil, bad(api.Heard{With: "a", Value: 1000}), 9, api.ErrArg}, {p, nil, bad(api.Heard{With: "a", Value: -1}), 9, api.ErrArg}, {p, nil, bad(api.Heard{With: "zz", Value: 999}), 9, api.OK},
		{p, nil, append(bad(api.Heard{With: "a", Value: -1}), api.Heard{}), 9, api.ErrArg},
		{p, nil, ok, -1, api.ErrArg}, {p, nil, ok, api.MaxFuel + 1, api.ErrArg}, {p, nil, ok, api.MaxFuel, api.OK}, {p, nil, ok, 3, api.ErrFull}, {p, nil, nil, 0, api.OK},
	} {
		d, err := part.Run(c.p, c.v, c.heard, c.fuel)
		same(t, fmt.Sprint("errors ", i), err, c.want)
		if err != api.OK {
			same(t, fmt.Sprint("nothing ", i), d, api.Drive{})
		}
	}
}

func TestHears(t *testing.T) { // P6.4
	l, _, err := run.ReadEvents("a send b 8\nb take a x 8\na tell b yes\nb offer a yes\nc send a 1\na tell c b\nb send a 2\nb set a 3\nb if 1\nc send b 0\nc tell b l\n")
	if err != api.OK {
		t.Fatal(err)
	}
	for role, want := range map[string]string{"b": "[{a 8 } {a 0 yes} {c 0 } {c 0 l}]", "a": "[{c 1 } {b 2 }]", "c": "[{a 0 b}]", "d": "[]"} {
		h, err := part.Hears(l, role)
		same(t, "heard by "+role, []any{h, err}, []any{want, api.OK})
	}
	for _, role := range []string{"", "A", "main"} {
		h, err := part.Hears(l, role)
		same(t, "no name", []any{h, err}, []any{"[]", api.ErrName})
	}
	h, err := part.Hears([]api.Event{{}}, "A")
	same(t, "no events", []any{h, err}, []any{"[]", api.ErrName})
	h, err = part.Hears([]api.Event{{Role: "a", Kind: api.ActSend, With: "a"}}, "A")
	same(t, "events first", []any{h, err}, []any{"[]", api.ErrTwice})
	h, err = part.Hears(make([]api.Event, api.MaxEvents+1), "A")
	same(t, "many events", []any{h, err}, []any{"[]", api.ErrLarge})
}

// plays are some that can be projected.
var plays = []string{
	"main { a.7 -> b.x; b.x + 1 -> c.y; c.y -> a.z; }",
	"proc p(x, y) { x.v -> y.v; if y.v < 5 { y -> x [again]; x.v := v + 1; p(x, y); } else { y -> x [stop]; } y.w := v; } main { a.v := 2; p(a, b); p(b, c); c.v -> a.x; }",
	"main { if a.v { a -> b [yes]; a -> c [l]; b.1 -> c.v; } else { a -> b [no]; a -> c [m]; c.2 -> b.v; } b.v -> a.u; }",
	"proc ring(x, y, z) { x.v + 1 -> y.v; if y.v < 9 { y -> x [go]; y -> z [go]; ring(y, z, x); } else { y -> x [end]; y -> z [end]; } } main { ring(a, b, c); c.v -> a.last; }",
}

func TestRunsOfProjections(t *testing.T) { // what follows from P6.4
	for _, s := range plays {
		p, _, err := script.Read(s)
		if err != api.OK {
			t.Fatal(s, err)
		}
		for n := range 4 {
			stores := []api.Store{{Role: "a", Vars: []api.Slot{{Name: "v", Value: n + 1}}}, {Role: "b", Vars: []api.Slot{{Name: "w", Value: 3}}}}
			if !projected(t, p, stores, 1000) {
				t.Errorf("no run of %s", s)
			}
		}
	}
}

// projected compares what the roles of a play do with what their parts do by themselves, if the play runs to its end.
func projected(t *testing.T, p api.Play, stores []api.Store, fuel int) bool {
	t.Helper()
	last, events, err := run.Run(p, stores, fuel)
	if err != api.OK {
		return false
	}
	roles, _ := script.Roles(p)
	for _, role := range roles {
		q, err := project.Project(p, role)
		if err != api.OK {
			t.Fatal("no projection", err)
		}
		l, _ := part.Hears(events, role)
		d, err := part.Run(q, varsOf(stores, role), l, fuel)
		own, _ := run.Actions(events, role)
		same(t, "actions of "+role, []any{d.State, d.Taken, d.Events, d.Vars, err}, []any{api.DriveEnds, len(l), own, varsOf(last, role), api.OK})
	}
	return true
}

func varsOf(s []api.Store, role string) []api.Slot {
	for _, one := range s {
		if one.Role == role {
			return one.Vars
		}
	}
	return nil
}
