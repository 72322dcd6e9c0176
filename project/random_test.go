package project_test

import (
	"fmt"
	"slices"
	"testing"

	"promptbook/api"
	"promptbook/check"
	"promptbook/project"
)

// compare compares what all functions but Amend and Plain return with what the chapter says.
func compare(t *testing.T, p api.Play) {
	t.Helper()
	what := words(t, p)
	want, wrong := oracleSpare(p)
	numbers, err := project.Spare(p)
	same(t, "Spare "+what, []any{numbers, err}, []any{want, wrong})
	pairs, err := project.Needs(p)
	same(t, "Needs "+what, []any{pairs, err}, []any{oracleNeeds(p), api.OK})
	var all []api.Part
	first := api.OK
	for _, role := range rolesOf(p) {
		part, wrong := oracleProject(p, role)
		got, err := project.Project(p, role)
		same(t, "Project "+role+" of "+what, []any{got, err}, []any{part, wrong})
		numbers, err := project.Blind(p, role)
		same(t, "Blind "+role+" of "+what, []any{numbers, err}, []any{oracleBlind(p, role), api.OK})
		numbers, err = project.Taken(p, role)
		same(t, "Taken "+role+" of "+what, []any{numbers, err}, []any{oracleTaken(p, role), api.OK})
		all = append(all, part)
		first = max(first, wrong)
	}
	if first != api.OK {
		all = nil
	}
	parts, err := project.All(p)
	same(t, "All "+what, []any{parts, err}, []any{all, first})
}

func TestRandomPlays(t *testing.T) { // P5.1 to P5.5
	d := dice{1}
	left, out, behind := 0, 0, 0
	for range 1500 {
		p := d.play()
		same(t, words(t, p), check.Check(p), api.OK)
		compare(t, p)
		a := oracleAmend(p)
		q, n, err := project.Amend(p)
		same(t, "Amend "+words(t, p), []any{words(t, q), n, err}, []any{words(t, a.play), a.left, api.OK})
		if a.left > 0 {
			compare(t, a.play)
		}
		left += a.left
		out += a.out
		behind += a.behind
		plain, removed := oraclePlain(p)
		q, n, err = project.Plain(p)
		same(t, "Plain "+words(t, p), []any{words(t, q), n, err}, []any{words(t, plain), removed, api.OK})
	}
	if left < 2000 || out < 250 || behind < 4 {
		t.Errorf("too few: %d selections left in, %d left out, %d of them behind later ones", left, out, behind)
	}
}

// addedTo are the numbers of the selections at the beginning of branches that a list has and another one has not.
func addedTo(l, before []api.Step, next *int) []int {
	var out []int
	more := len(l) - len(before)
	for i, s := range l {
		number := *next
		*next++
		if i < more {
			out = append(out, number)
			continue
		}
		out = append(out, addedTo(s.Then, before[i-more].Then, next)...)
		out = append(out, addedTo(s.Else, before[i-more].Else, next)...)
	}
	return out
}

func addedNumbers(before, after api.Play) []int {
	next := 0
	out := addedTo(after.Main, before.Main, &next)
	for i, q := range after.Procs {
		out = append(out, addedTo(q.Body, before.Procs[i].Body, &next)...)
	}
	return out
}

func intersect(a, b []int) []int {
	var out []int
	for _, n := range a {
		if slices.Contains(b, n) {
			out = append(out, n)
		}
	}
	return out
}

func TestWhatFollows(t *testing.T) { // what follows from P5.1 to P5.4
	d := dice{2}
	sure := 0
	for range 1500 {
		p := d.larger()
		q, n, err := project.Amend(p)
		if err == api.ErrLarge {
			continue
		}
		what := words(t, p)
		parts, err := project.All(q)
		same(t, "amended "+what, []any{len(parts), err}, []any{len(rolesOf(p)), api.OK})
		numbers, err := project.Spare(q)
		added := addedNumbers(p, q)
		same(t, "spare "+what, []any{intersect(numbers, added), err, len(added)}, []any{[]int{}, api.OK, n})
		if _, err := project.Spare(p); err == api.OK {
			sure++
			same(t, "nothing to amend "+what, []any{words(t, q), n}, []any{what, 0})
		}
		one, before, _ := project.Plain(p)
		other, after, _ := project.Plain(q)
		same(t, "plain "+what, words(t, other), words(t, one))
		same(t, "plain "+what, after, before+n)
		same(t, "no selections "+what, tellNumbers(one, isAny), []int{})
		again, n, err := project.Amend(q)
		same(t, "amended twice "+what, []any{words(t, again), n, err}, []any{words(t, q), 0, api.OK})
	}
	if sure < 100 {
		t.Errorf("too few plays that can be projected: %d", sure)
	}
}

// larger has deeper choices than play.
func (d *dice) larger() api.Play {
	p := d.play()
	r := roller{d, []string{"a", "b", "c", "d", "e"}[:2+d.roll(4)], p.Procs, d.roll(6)}
	p.Main = r.steps(6, 7)
	if len(fmt.Sprint(p)) > 20_000 {
		p.Main = p.Main[:1]
	}
	return p
}
