package part_test

import (
	"fmt"
	"slices"
	"testing"

	"promptbook/api"
	"promptbook/part"
)

// tries are how many random parts some tests look at.
const tries = 2500

func TestTextOfRandomParts(t *testing.T) { // P6.2
	d := &dice{1}
	for range tries {
		p := d.part()
		s := text(t, p)
		same(t, "text", s, textLiterally(p))
		q, line, err := part.Read(s)
		same(t, "read "+s, []any{q, line, err}, []any{p, 0, api.OK})
	}
}

func TestCountOfRandomParts(t *testing.T) { // P6.1
	d := &dice{2}
	for range tries {
		p := d.part()
		acts, depth, err := part.Count(p)
		if err != api.OK || acts != len(allOf(p)) || depth != deepestOf(p) {
			t.Errorf("%s: %d acts, %d deep, error %d", words(t, p), acts, depth, err)
		}
	}
}

func deepestOf(p api.Part) int {
	var deepest func(l []api.Act) int
	deepest = func(l []api.Act) int {
		most := 0
		for _, a := range l {
			most = max(most, 1)
			for _, block := range lists(a) {
				most = max(most, 1+deepest(block))
			}
		}
		return most
	}
	most := deepest(p.Main)
	for _, l := range p.Locals {
		most = max(most, deepest(l.Body))
	}
	return most
}

func TestPartnersOfRandomParts(t *testing.T) { // P6.3
	d := &dice{3}
	for range tries {
		p := d.part()
		got, err := part.Partners(p)
		same(t, "partners of "+words(t, p), []any{got, err}, []any{partnersLiterally(p), api.OK})
	}
}

func TestShortestOfRandomParts(t *testing.T) { // P6.3
	d := &dice{4}
	never := 0
	for range tries {
		p := d.part()
		n, ends, err := part.Shortest(p)
		want, wantEnds := shortestLiterally(p)
		same(t, "shortest of "+words(t, p), []any{n, ends, err}, []any{want, wantEnds, api.OK})
		if !ends {
			never++
		}
	}
	if never < tries/20 || never > tries*19/20 {
		t.Errorf("%d of %d parts never end", never, tries)
	}
}

func TestRunsOfRandomParts(t *testing.T) { // P6.4
	d := &dice{5}
	states := map[string]int{}
	for range 4 * tries {
		p := d.part()
		v := slots(fmt.Sprintf("u=%d w=%d x=%d", d.roll(3), d.roll(3), d.roll(2)))
		l := d.mail(8)
		fuel := d.roll(60)
		got, err := part.Run(p, v, l, fuel)
		want, wantErr := runLiterally(p, v, l, fuel)
		same(t, fmt.Sprintf("run of %s with %v, %v, %d", words(t, p), v, l, fuel), []any{got, err}, []any{want, wantErr})
		states[fmt.Sprint(got.State, err)]++
	}
	for _, s := range []string{"1 0", "2 0", "3 0", "0 12"} {
		if states[s] < tries/4 {
			t.Errorf("states: %v", states)
		}
	}
}

func TestSlimRandomParts(t *testing.T) { // P6.5
	d := &dice{6}
	less := 0
	for range tries {
		p := d.part()
		got, n, err := part.Slim(p)
		want, wantLess := slimLiterally(p)
		same(t, "slim "+words(t, p), []any{got, n, err}, []any{want, wantLess, api.OK})
		if n > 0 {
			less++
		}
	}
	if less < tries/4 {
		t.Errorf("only %d of %d parts have become slimmer", less, tries)
	}
}

func TestRandomRings(t *testing.T) { // P6.3, P6.5
	d := &dice{10}
	for range tries {
		p := d.ringed()
		got, n, err := part.Slim(p)
		want, wantLess := slimLiterally(p)
		same(t, "slim "+words(t, p), []any{got, n, err}, []any{want, wantLess, api.OK})
		n, ends, err := part.Shortest(p)
		wantN, wantEnds := shortestLiterally(p)
		same(t, "shortest of "+words(t, p), []any{n, ends, err}, []any{wantN, wantEnds, api.OK})
	}
}

func TestRefinesOfRandomParts(t *testing.T) { // P6.6
	d := &dice{7}
	yes := 0
	for range tries {
		a := d.part()
		b := a
		for range d.roll(3) {
			b = d.changed(b)
		}
		if part.CheckPart(b) != api.OK {
			continue
		}
		got, err := part.Refines(a, b)
		back, _ := part.Refines(b, a)
		same(t, words(t, a)+" for "+words(t, b), []any{got, back, err}, []any{refinesLiterally(a, b), refinesLiterally(b, a), api.OK})
		if got != back {
			yes++
		}
	}
	if yes < tries/40 {
		t.Errorf("only %d of %d parts refine another one that does not refine them", yes, tries)
	}
}

// changed is a part in which something is a little different, perhaps so that it may take the place of the first one, or the other way round.
func (d *dice) changed(p api.Part) api.Part {
	at, n, rich := d.roll(len(allOf(p))+1), -1, d.roll(2) == 0
	p = changeOf(p, func(a api.Act) []api.Act {
		n++
		if len(a.Offers) > 1 && (rich || n == at) {
			rich = false
			i := d.roll(len(a.Offers))
			a.Offers = slices.Delete(slices.Clone(a.Offers), i, i+1)
		} else if n != at {
			return []api.Act{a}
		} else if a.Expr.Op != 0 && d.roll(3) > 0 {
			a.Expr = api.Expr{Op: api.OpAdd, Args: []api.Expr{a.Expr, number(d.roll(2))}}
		} else if a.Kind == api.ActCall {
			a.Proc = d.pick("p0", "p1", "p2")
		} else if d.roll(3) == 0 {
			a.Var += "v"
		}
		return []api.Act{a}
	})
	if d.roll(2) == 0 {
		for i := range p.Locals {
			p.Locals[i].Key += "x"
		}
		p = changeOf(p, func(a api.Act) []api.Act {
			if a.Kind == api.ActCall {
				a.Proc += "x"
			}
			return []api.Act{a}
		})
	}
	return p
}
