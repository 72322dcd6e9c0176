package weave_test

import (
	"fmt"
	"slices"
	"testing"

	"promptbook/api"
	"promptbook/net"
	"promptbook/project"
	"promptbook/run"
	"promptbook/script"
	"promptbook/weave"
)

func TestClocksTell(t *testing.T) { // what follows from P8.2
	d := &dice{21}
	for range tries / 10 {
		l := d.events(d.roll(30))
		roles, clocks, _ := weave.Clocks(l)
		for i, e := range l {
			own, _ := slices.BinarySearch(roles, e.Role)
			for k := range l {
				same(t, fmt.Sprint(i, " before ", k, " in ", text(l)), first(weave.Before(l, i, k)), first(i != k && clocks[i][own] <= clocks[k][own], api.OK))
			}
		}
	}
}

func TestAlikeLists(t *testing.T) { // what follows from P8.3 and P8.4
	d := &dice{22}
	for range tries / 2 {
		l, c := d.events(d.roll(30)), d.costs()
		m := d.shuffled(l)
		normal, _ := weave.Normal(l)
		other, _ := weave.Normal(m)
		same(t, text(m)+" and "+text(l), []any{first(weave.Alike(l, m)), text(other)}, []any{first(true, api.OK), text(normal)})
		_, end, _ := weave.Times(l, c)
		_, otherEnd, _ := weave.Times(m, c)
		same(t, "end of "+text(m), otherEnd, end)
		if len(l) > 0 {
			e := d.roll(len(l))
			m[e].Role, m[e].With, m[e].Kind, m[e].Name, m[e].Value = "z", "", api.ActSet, "z", 9
			other, err := weave.Normal(m)
			same(t, "another event, in "+text(m), err != api.OK || text(other) != text(normal), true)
			is, _ := weave.Alike(l, m)
			same(t, "not alike: "+text(m), is, false)
		}
	}
}

func TestSlackAlongCriticalLists(t *testing.T) { // what follows from P8.4
	d := &dice{23}
	for range tries {
		l, c := d.events(d.roll(60)), d.costs()
		slack, _ := weave.Slack(l, c)
		list, _ := weave.Critical(l, c)
		same(t, "a list for "+what(l, c), len(list) > 0, len(l) > 0)
		for _, e := range list {
			same(t, fmt.Sprint("slack of ", e, " in ", what(l, c)), slack[e], 0)
		}
	}
}

func TestAnyOrder(t *testing.T) { // what follows from P8.4 and P8.6
	d := &dice{24}
	for range tries {
		l, c := d.events(d.roll(api.MaxOrder+1)), d.costs()
		_, end, _ := weave.Times(l, c)
		longest, _ := weave.Queue(l, "d", "b")
		cuts, err := weave.Cuts(l)
		same(t, "an order has as many cuts as events, and one: "+text(l), err == api.OK && cuts > len(l), true)
		order, waiting, now, free, landed := d.shuffled(l), 0, 0, map[string]int{}, map[[2]string][]int{}
		for _, e := range order {
			// An event begins neither before the one that stands before it in this order, nor before it can.
			now = max(now, free[e.Role])
			if isTaker(e) {
				letters := landed[[2]string{e.With, e.Role}]
				now = max(now, letters[0])
				landed[[2]string{e.With, e.Role}] = letters[1:]
			}
			free[e.Role] = now + cost(e, c)
			if isLetter(e) {
				landed[[2]string{e.Role, e.With}] = append(landed[[2]string{e.Role, e.With}], free[e.Role]+c.Way)
			}
			if isLetter(e) && e.Role == "d" && e.With == "b" {
				waiting++
			} else if isTaker(e) && e.Role == "b" && e.With == "d" {
				waiting--
			}
			same(t, "a longer queue in "+text(order), waiting <= longest, true)
		}
		last := 0
		for _, n := range free {
			last = max(last, n)
		}
		same(t, "an earlier end of "+text(order), last >= end, true)
	}
}

func TestOrdersOfFew(t *testing.T) { // what follows from P8.6: each order is one of those that are counted
	d := &dice{25}
	for range 50 {
		l := d.events(1 + d.roll(5))
		// Values tell the events of a role from one another.
		for i := range l {
			if l[i].Kind == api.ActSet || l[i].Kind == api.ActIf {
				l[i] = api.Event{Role: l[i].Role, Kind: api.ActSet, Name: "n", Value: i}
			}
		}
		seen := map[string]bool{}
		for range 1000 {
			seen[fmt.Sprint(d.shuffled(l))] = true
		}
		n, _ := weave.Orders(l)
		same(t, "as many orders as can be seen of "+text(l), len(seen) <= n, true)
	}
}

// plays are some that can be projected.
var plays = []string{
	"main { a.7 -> b.x; b.x + 1 -> c.y; c.y -> a.z; }",
	"proc p(x, y) { x.v -> y.v; if y.v < 5 { y -> x [again]; x.v := v + 1; p(x, y); } else { y -> x [stop]; } y.w := v; } main { a.v := 2; p(a, b); p(b, c); c.v -> a.x; }",
	"main { if a.v { a -> b [yes]; a -> c [l]; b.1 -> c.v; } else { a -> b [no]; a -> c [m]; c.2 -> b.v; } b.v -> a.u; }",
	"proc ring(x, y, z) { x.v + 1 -> y.v; if y.v < 9 { y -> x [go]; y -> z [go]; ring(y, z, x); } else { y -> x [end]; y -> z [end]; } } main { ring(a, b, c); c.v -> a.last; }",
	"main { a.1 -> b.x; a.2 -> c.x; d.3 -> b.y; d.4 -> c.y; b.x + y -> a.z; c.x * y -> d.z; e.v := 5; }",
}

func TestPlays(t *testing.T) { // what follows from P8.1 and P8.3: a network of projections does what the play does, up to the order
	for _, s := range plays {
		p, _, err := script.Read(s)
		if err != api.OK {
			t.Fatal(s, err)
		}
		parts, err := project.All(p)
		if err != api.OK {
			t.Fatal("no projections:", s, err)
		}
		_, events, _ := run.Run(p, nil, 1000)
		same(t, "check of "+s, weave.Check(events), api.OK)
		partners, _ := weave.Partner(events)
		for e, partner := range partners {
			same(t, fmt.Sprint("partner of ", e, " in ", text(events)), partner >= 0, isLetter(events[e]) || isTaker(events[e]))
		}
		for _, choices := range [][]int{{0}, {1000}, {3, 1, 0, 2}, {0, 0, 0, 7}, {5, 4, 3, 2, 1, 0, 0}} {
			_, other, _, err := net.Run(parts, nil, choices, 1000)
			same(t, "run of "+s, err, api.OK)
			same(t, "alike: "+text(other), first(weave.Alike(events, other)), first(true, api.OK))
			one, _ := weave.Normal(events)
			two, _ := weave.Normal(other)
			same(t, "normal form of "+text(other), text(two), text(one))
		}
	}
}
