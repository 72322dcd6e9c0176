package part_test

import (
	"fmt"
	"slices"
	"testing"

	"promptbook/api"
	"promptbook/part"
)

func TestRefines(t *testing.T) { // P6.6
	const loop = " local p 0 (x, y) { offer y { l { send y 1; call p 0 (x, y); } m { } } }"
	for _, c := range []struct {
		a, b      string
		one, back bool // a for b, b for a
	}{
		{"part b { }", "part b { }", true, true}, {example, example, true, true}, {rich, rich, true, true},
		{"part b { }", "part c { }", false, false},
		{"part b { send a 1; }", "part b { }", false, false}, {"part b { send a 1; send a 1; }", "part b { send a 1; }", false, false},
		{"part b { send a x + 0; set x 1 * y; if x == 0 { } else { } }", "part b { send a x; set x y; if !x { } else { } }", true, true},
		{"part b { send a x; }", "part b { send a y; }", false, false}, {"part b { set x 1 + 1; }", "part b { set x 3; }", false, false},
		{"part b { send a 1; }", "part b { send c 1; }", false, false}, {"part b { take a x; }", "part b { take a y; }", false, false}, {"part b { tell a l; }", "part b { tell a m; }", false, false},
		{"part b { tell a l; }", "part b { take a l; }", false, false}, {"part b { set x 1; send a 1; }", "part b { send a 1; set x 1; }", false, false},
		{"part b { if x { send a 1; } else { } }", "part b { if x { } else { send a 1; } }", false, false}, {"part b { if x { } else { send a 1; } }", "part b { if x { } else { send a 2; } }", false, false},
		// Offers: all that the other one offers, and perhaps more.
		{"part b { offer a { l { } m { } } }", "part b { offer a { m { } } }", true, false}, {"part b { offer a { l { } m { } } }", "part b { offer a { l { } n { } } }", false, false},
		{"part b { offer a { k { } l { } m { } n { } } }", "part b { offer a { l { } n { } } }", true, false},
		{"part b { offer a { l { send a 1; } m { } } }", "part b { offer a { l { } } }", false, false}, {"part b { offer a { l { offer a { x { } y { } } } m { } } }", "part b { offer a { l { offer a { x { } } } } }", true, false},
		{"part b { offer a { l { } } }", "part b { offer c { l { } } }", false, false},
		{"part b { if x { offer a { l { } m { } } } else { } }", "part b { if x { offer a { l { } } } else { } }", true, false}, {"part b { if x { } else { offer a { l { } m { } } } }", "part b { if x { } else { offer a { l { } } } }", true, false},
		{"part b { offer a { l { } m { } } offer a { l { } } }", "part b { offer a { l { } } offer a { l { } m { } } }", false, false},
		// Locals: other Keys, the same Params and Args.
		{"part b { call p 0 (b, a); }" + loop, "part b { call q 0 (b, a); } local q 0 (x, y) { offer y { l { send y 1; call q 0 (x, y); } m { } } }", true, true},
		{"part b { call p 0 (b, a); }" + loop, "part b { call q 0 (b, a); } local q 0 (x, y) { offer y { m { } } }", true, false},
		{"part b { call p 0 (b, a); }" + loop, "part b { call q 0 (b, a); } local q 0 (x, z) { offer z { l { send z 1; call q 0 (x, z); } m { } } }", false, false},
		{"part b { call p 0 (b, a); }" + loop, "part b { call p 0 (b, c); }" + loop, false, false},
		{"part b { call p 0 (b, a); } local p 0 (x, y) { }", "part b { call p 1 (a, b); } local p 1 (x, y) { }", false, false},
		{"part b { call p 0 (b, a); }" + loop, "part b { call p 0 (b, a); } local p 0 (x, y) { offer y { l { send y 1; call q 0 (x, y); } m { } } } local q 0 (x, y) { offer y { l { send y 1; call p 0 (x, y); } m { } } }", true, true},
		{"part b { call p 0 (b, a); }" + loop, "part b { call p 0 (b, a); } local p 0 (x, y) { offer y { l { send y 1; call q 0 (x, y); } m { } } } local q 0 (x, y) { offer y { l { send y 2; call p 0 (x, y); } m { } } }", false, false},
		{"part b { call p 0 (b, a); }" + loop, "part b { call p 0 (b, a); } local p 0 (x, y) { offer y { l { send y 1; call q 0 (x, y); } m { } } } local q 0 (x, y) { offer y { l { send y 1; call p 0 (x, y); } } }", true, false},
		{"part b { call p 0 (b); } local p 0 (x) { call p 0 (x); }", "part b { call p 0 (b); } local p 0 (x) { call q 0 (x); } local q 0 (x) { call p 0 (x); }", true, true},
		{"part b { call p 0 (b); } local p 0 (x) { call p 0 (x); }", "part b { call p 0 (b); } local p 0 (x) { }", false, false},
		{"part b { call p 0 (b); call p 0 (b); } local p 0 (x) { set v 1; } local q 0 (x) { set v 2; }", "part b { call p 0 (b); call q 0 (b); } local p 0 (x) { set v 1; } local q 0 (x) { set v 2; }", false, false},
		{"part b { call p 0 (b); call p 0 (b); } local p 0 (x) { set v 1; }", "part b { call p 0 (b); call q 0 (b); } local p 0 (x) { set v 1; } local q 0 (x) { set v 1; }", true, true},
		// What is not called does not matter.
		{"part b { } local p 0 (x) { set v 1; }", "part b { } local p 0 (y) { }", true, true},
		{"part b { offer a { l { } m { call p 0 (b); } } } local p 0 (x) { }", "part b { offer a { l { } } } local p 0 (x, y) { }", true, false},
	} {
		a, b := read(t, c.a), read(t, c.b)
		one, err := part.Refines(a, b)
		back, backErr := part.Refines(b, a)
		same(t, c.a+" and "+c.b, []any{one, back, err, backErr}, []any{c.one, c.back, api.OK, api.OK})
	}
}

func TestRefinesErrors(t *testing.T) { // P6.6, Z4
	p, none, act := read(t, example), api.Part{}, api.Part{Role: "b", Main: make([]api.Act, 1)}
	for _, c := range []struct {
		a, b api.Part
		want api.Errno
	}{{p, none, api.ErrName}, {none, p, api.ErrName}, {act, none, api.ErrKind}, {none, act, api.ErrName}, {p, act, api.ErrKind}} {
		is, err := part.Refines(c.a, c.b)
		same(t, "errors", []any{is, err}, []any{false, c.want})
	}
}

func TestPartsInThePlacesOfOthers(t *testing.T) { // what follows from P6.6
	d := &dice{16}
	ran, chains := 0, 0
	for range 2 * tries {
		c := d.part()
		b := d.changed(c)
		a := d.changed(b)
		if part.CheckPart(a) != api.OK || part.CheckPart(b) != api.OK {
			continue
		}
		self, _ := part.Refines(a, a)
		ab, _ := part.Refines(a, b)
		bc, _ := part.Refines(b, c)
		ac, _ := part.Refines(a, c)
		if !self || ab && bc && !ac {
			t.Errorf("%s, %s, %s: %v %v %v %v", words(t, a), words(t, b), words(t, c), self, ab, bc, ac)
		}
		if ab && bc {
			chains++
		}
		if !ab {
			continue
		}
		v, l := slots(fmt.Sprintf("u=%d v=%d w=%d", d.roll(3), d.roll(2), d.roll(3))), d.mail(10)
		second, err := part.Run(b, v, l, 300)
		if err != api.OK || second.State == api.DriveRefuses {
			continue
		}
		first, err := part.Run(a, v, l, 300)
		same(t, fmt.Sprint(words(t, a), " for ", words(t, b), " with ", v, " on ", l), []any{first, err}, []any{second, api.OK})
		ran++
	}
	if ran < tries/10 || chains < tries/20 {
		t.Errorf("only %d runs, %d chains", ran, chains)
	}
}

// ring is a part with a ring of Locals, of which each one offers and calls the next one.
func ring(n int, offers string) string {
	s := "part b { call p0 0 (b, a); }"
	for i := range n {
		s += fmt.Sprintf(" local p%d 0 (x, y) { offer y { %s l { call p%d 0 (x, y); } } }", i, offers, (i+1)%n)
	}
	return s
}

func TestRefinesRings(t *testing.T) { // P6.6
	a, b := read(t, ring(7, "k { }")), read(t, ring(12, ""))
	one, _ := part.Refines(a, b)
	back, _ := part.Refines(b, a)
	same(t, "rings", []any{one, back}, []any{true, false})
	at := slices.IndexFunc(b.Locals, func(l api.Local) bool { return l.Key == "p11" })
	b.Locals[at].Body = append(b.Locals[at].Body, api.Act{Kind: api.ActSet, Var: "v", Expr: number(1)})
	one, _ = part.Refines(a, b)
	same(t, "the last couple", one, false)
}
