package part_test

import (
	"fmt"
	"strings"
	"testing"

	"promptbook/api"
	"promptbook/part"
)

// These parts are as large as they can be. What goes through all lists of Args, all ways or all pairs of places again and again would not come to an end.

// mixed is a part with Locals that call one another with their Params in other orders.
func mixed(locals, calls int) api.Part {
	params := strings.Split("x0 x1 x2 x3 x4 x5 x6 x7 x8 x9 xa xb", " ")
	p := api.Part{Role: "b"}
	for i := range calls {
		args := []string{"b"}
		for k := range 11 {
			args = append(args, fmt.Sprintf("r%d_%d", i, k))
		}
		p.Main = append(p.Main, api.Act{Kind: api.ActCall, Proc: fmt.Sprint("p", i%locals), Args: args})
	}
	for i := range locals {
		l := api.Local{Key: fmt.Sprint("p", i), Params: params}
		l.Body = append(l.Body, api.Act{Kind: api.ActTell, With: params[1+i%11], Label: fmt.Sprintf("l%02d", i%50)})
		for n := range (api.MaxActs-calls)/locals - 1 {
			args := []string{"x0"}
			for k := range 11 {
				args = append(args, params[1+(k*(n%10+1)+i)%11])
			}
			l.Body = append(l.Body, api.Act{Kind: api.ActCall, Proc: fmt.Sprint("p", (i+n*7+1)%locals), Args: args})
		}
		p.Locals = append(p.Locals, l)
	}
	return p
}

func TestLargeCompanies(t *testing.T) { // P6.3, P6.6, Z1
	p := mixed(api.MaxLocals, 200)
	l, err := part.Partners(p)
	same(t, "partners", []any{len(l), err}, []any{2200, api.OK})
	for _, one := range l {
		if len(one.Tells) != 50 || one.Tells[0] != "l00" || one.Tells[49] != "l49" || one.Sends || one.Takes || len(one.Offers) != 0 {
			t.Fatal(one)
		}
	}
	n, ends, err := part.Shortest(p)
	same(t, "shortest", []any{n, ends, err}, []any{0, false, api.OK})
	is, err := part.Refines(p, p)
	same(t, "refines", []any{is, err}, []any{true, api.OK})
	q, n, err := part.Slim(p)
	same(t, "slim", []any{len(q.Locals), n, err}, []any{api.MaxLocals, 0, api.OK})
}

func TestLargeRings(t *testing.T) { // P6.6, Z1
	a, b := read(t, ring(599, "k { }")), read(t, ring(api.MaxLocals, ""))
	is, err := part.Refines(a, b)
	same(t, "refines", []any{is, err}, []any{true, api.OK})
	is, err = part.Refines(b, a)
	same(t, "does not refine", []any{is, err}, []any{false, api.OK})
	b.Locals[599].Body = append(b.Locals[599].Body, api.Act{Kind: api.ActSet, Var: "v", Expr: number(1)})
	is, err = part.Refines(a, b)
	same(t, "the last Local", []any{is, err}, []any{false, api.OK})
}

func TestLargeChains(t *testing.T) { // P6.5, Z1
	for s, less := range map[string]int{
		"part b { " + chain(api.MaxActs/2, "set v%d v%d; ") + "call p 0 (b); } local p 0 (x) { " + chain(api.MaxActs/2-2, "set w%d w%d; ") + "call p 0 (x); }": api.MaxActs - 2,
		"part b { call p 0 (b); } local p 0 (x) { " + chain(700, "if y { set v%d v%d; } else { set u x; } ") + "call p 0 (x); }":                               2100,
	} {
		_, n, err := part.Slim(read(t, s))
		same(t, short(s), []any{n, err}, []any{less, api.OK})
	}
	var main, locals strings.Builder
	for i := range 200 {
		fmt.Fprintf(&main, "call p%d 0 (b); ", 199-i)
		fmt.Fprintf(&locals, "local p%d 0 (x) { if y { set v%d v%d; call p%d 0 (x); } else { set w%d w%d; call p%d 0 (x); } } ", i, i+1, i, (i*7+1)%200, i+1, i, (i*13+5)%200)
	}
	_, n, err := part.Slim(read(t, "part b { "+main.String()+"} "+locals.String()))
	same(t, "through Locals", []any{n, err}, []any{404, api.OK}) // in p66 and p166 both branches call the same Local
}

func TestLargeExpressions(t *testing.T) { // P6.4, P6.5, Z1
	e := name("x")
	for range 12 { // 4,096 variables
		e = api.Expr{Op: api.OpAdd, Args: []api.Expr{e, e}}
	}
	p := read(t, "part b { call p 0 (b); } local p 0 (x) { set x 1; call p 0 (x); }")
	p.Locals[0].Body[0].Expr = e
	_, err := part.Run(p, nil, nil, api.MaxFuel)
	same(t, "run", err, api.ErrFull)
	_, n, err := part.Slim(p)
	same(t, "slim", []any{n, err}, []any{0, api.OK})
	_, err = part.Text(p)
	same(t, "text", err, api.OK)
}

func TestManyOffers(t *testing.T) { // P6.1, P6.3
	var offers []api.Offer
	for i := range api.MaxOffers {
		offers = append(offers, api.Offer{Label: fmt.Sprintf("l%04d", i), Body: []api.Act{{Kind: api.ActSet, Var: "v", Expr: number(i)}}})
	}
	p := api.Part{Role: "b", Main: []api.Act{{Kind: api.ActOffer, With: "a", Offers: offers}, {Kind: api.ActSend, With: "a", Expr: name("v")}}}
	n, depth, err := part.Count(p)
	same(t, "count", []any{n, depth, err}, []any{102, 2, api.OK})
	l, err := part.Partners(p)
	same(t, "partners", []any{len(l), len(l[0].Offers), err}, []any{1, 100, api.OK})
	for i := range api.MaxOffers {
		d, err := part.Run(p, nil, []api.Heard{{With: "a", Label: offers[i].Label}}, 3)
		same(t, "run", []any{d.State, d.Taken, d.Events[2].Value, err}, []any{api.DriveEnds, 1, i, api.OK})
	}
	q := p
	q.Main = []api.Act{{Kind: api.ActOffer, With: "a", Offers: offers[17:61]}, p.Main[1]}
	one, _ := part.Refines(p, q)
	back, _ := part.Refines(q, p)
	same(t, "refines", []any{one, back}, []any{true, false})
}
