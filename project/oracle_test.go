package project_test

import (
	"fmt"
	"reflect"
	"slices"
	"sort"

	"promptbook/api"
)

// The oracle does what the chapter says word by word. Its own selections have the mark in Var, which they do not use.
const mark = "added"

// projection is that of a list, if it has one.
func projection(l []api.Step, role string) ([]api.Act, bool) {
	if len(l) == 0 {
		return nil, true
	}
	s := l[0]
	rest, ok := projection(l[1:], role)
	if !ok {
		return nil, false
	}
	var first []api.Act
	switch s.Kind {
	case api.StepSend:
		if s.Role == role {
			first = []api.Act{{Kind: api.ActSend, With: s.To, Expr: s.Expr}}
		} else if s.To == role {
			first = []api.Act{{Kind: api.ActTake, With: s.Role, Var: s.Var}}
		}
	case api.StepTell:
		if s.Role == role {
			first = []api.Act{{Kind: api.ActTell, With: s.To, Label: s.Label}}
		} else if s.To == role {
			return []api.Act{{Kind: api.ActOffer, With: s.Role, Offers: []api.Offer{{Label: s.Label, Body: rest}}}}, true
		}
	case api.StepSet:
		if s.Role == role {
			first = []api.Act{{Kind: api.ActSet, Var: s.Var, Expr: s.Expr}}
		}
	case api.StepIf:
		then, ok1 := projection(s.Then, role)
		otherwise, ok2 := projection(s.Else, role)
		if !ok1 || !ok2 {
			return nil, false
		}
		if s.Role == role {
			first = []api.Act{{Kind: api.ActIf, Expr: s.Expr, Then: then, Else: otherwise}}
		} else if first, ok = mergeLists(then, otherwise); !ok {
			return nil, false
		}
	case api.StepCall:
		if i := slices.Index(s.Args, role); i >= 0 {
			first = []api.Act{{Kind: api.ActCall, Proc: s.Proc, Index: i, Args: s.Args}}
		}
	}
	return append(slices.Clone(first), rest...), true
}

func mergeLists(a, b []api.Act) ([]api.Act, bool) {
	if len(a) != len(b) {
		return nil, false
	}
	var out []api.Act
	for i := range a {
		x, y := a[i], b[i]
		ok, also := true, true
		switch {
		case x.Kind == api.ActOffer && y.Kind == api.ActOffer && x.With == y.With:
			x.Offers, ok = mergeLabels(x.Offers, y.Offers)
		case x.Kind == api.ActIf && y.Kind == api.ActIf && reflect.DeepEqual(x.Expr, y.Expr):
			x.Then, ok = mergeLists(x.Then, y.Then)
			x.Else, also = mergeLists(x.Else, y.Else)
		case x.Kind == api.ActOffer || x.Kind == api.ActIf || !reflect.DeepEqual(x, y):
			return nil, false
		}
		if !ok || !also {
			return nil, false
		}
		out = append(out, x)
	}
	return out, true
}

func mergeLabels(a, b []api.Offer) ([]api.Offer, bool) {
	out := slices.Clone(a)
	for _, o := range b {
		i := slices.IndexFunc(a, func(x api.Offer) bool { return x.Label == o.Label })
		if i < 0 {
			out = append(out, o)
			continue
		}
		body, ok := mergeLists(a[i].Body, o.Body)
		if !ok {
			return nil, false
		}
		out[i].Body = body
	}
	sort.Slice(out, func(i, k int) bool { return out[i].Label < out[k].Label })
	return out, true
}

// isBlind says whether a step is a choice that is blind for a role.
func isBlind(s api.Step, role string) bool {
	if s.Kind != api.StepIf || s.Role == role {
		return false
	}
	then, ok := projection(s.Then, role)
	otherwise, also := projection(s.Else, role)
	if !ok || !also {
		return false
	}
	_, can := mergeLists(then, otherwise)
	return !can
}

// spot is a step with its number.
type spot struct {
	number int
	api.Step
}

// spots are all steps of a list, those within others, too; the first one's number is given.
func spots(l []api.Step, first int) []spot {
	var out []spot
	for _, s := range l {
		out = append(out, spot{first + len(out), s})
		out = append(out, spots(s.Then, first+len(out))...)
		out = append(out, spots(s.Else, first+len(out))...)
	}
	return out
}

// bodySpots are the steps of Main, and of each procedure.
func bodySpots(p api.Play) (main []spot, bodies [][]spot) {
	main = spots(p.Main, 0)
	first := len(main)
	for _, q := range p.Procs {
		l := spots(q.Body, first)
		bodies = append(bodies, l)
		first += len(l)
	}
	return main, bodies
}

// rolesOf are the roles of Main.
func rolesOf(p api.Play) []string {
	main, _ := bodySpots(p)
	var out []string
	for _, s := range main {
		for _, role := range append([]string{s.Role, s.To}, s.Args...) {
			if role != "" && !slices.Contains(out, role) {
				out = append(out, role)
			}
		}
	}
	sort.Strings(out)
	return out
}

// entry is a procedure and an Index.
type entry struct{ proc, index int }

// enter adds the entries of calls, and of the calls in the bodies there, as calls gives them for a body and a role.
func enter(p api.Play, l []api.Act, known map[entry]bool, calls func(proc, index int) []api.Act) {
	for _, a := range l {
		enter(p, a.Then, known, calls)
		enter(p, a.Else, known, calls)
		for _, o := range a.Offers {
			enter(p, o.Body, known, calls)
		}
		if a.Kind != api.ActCall {
			continue
		}
		e := entry{slices.IndexFunc(p.Procs, func(q api.Proc) bool { return q.Key == a.Proc }), a.Index}
		if !known[e] {
			known[e] = true
			enter(p, calls(e.proc, e.index), known, calls)
		}
	}
}

func inOrder(known map[entry]bool) []entry {
	var out []entry
	for e := range known {
		out = append(out, e)
	}
	sort.Slice(out, func(i, k int) bool {
		return out[i].proc < out[k].proc || out[i].proc == out[k].proc && out[i].index < out[k].index
	})
	return out
}

// oracleProject is what Project has to return for a role of Main.
func oracleProject(p api.Play, role string) (api.Part, api.Errno) {
	main, whole := projection(p.Main, role)
	known := map[entry]bool{}
	body := func(proc, index int) []api.Act {
		l, ok := projection(p.Procs[proc].Body, p.Procs[proc].Params[index])
		whole = whole && ok
		return l
	}
	enter(p, main, known, body)
	if !whole {
		return api.Part{}, api.ErrRule
	}
	out := api.Part{Role: role, Main: main}
	for _, e := range inOrder(known) {
		q := p.Procs[e.proc]
		out.Locals = append(out.Locals, api.Local{Key: q.Key, Index: e.index, Params: q.Params, Body: body(e.proc, e.index)})
	}
	return out, api.OK
}

// callsOf are the calls of a role in steps, as acts.
func callsOf(l []spot, role string) []api.Act {
	var out []api.Act
	for _, s := range l {
		if i := slices.Index(s.Args, role); i >= 0 {
			out = append(out, api.Act{Kind: api.ActCall, Proc: s.Proc, Index: i})
		}
	}
	return out
}

func oracleBlind(p api.Play, role string) []int {
	main, bodies := bodySpots(p)
	found := map[int]bool{}
	look := func(l []spot, role string) []api.Act {
		for _, s := range l {
			if isBlind(s.Step, role) {
				found[s.number] = true
			}
		}
		return callsOf(l, role)
	}
	enter(p, look(main, role), map[entry]bool{}, func(proc, index int) []api.Act {
		return look(bodies[proc], p.Procs[proc].Params[index])
	})
	var out []int
	for n := range found {
		out = append(out, n)
	}
	sort.Ints(out)
	return out
}

func oracleNeeds(p api.Play) []api.Pair {
	main, _ := bodySpots(p)
	var out []api.Pair
	for _, role := range rolesOf(p) {
		for _, s := range main {
			if isBlind(s.Step, role) {
				out = append(out, api.Pair{Name: role, Value: fmt.Sprint(s.number)})
			}
		}
	}
	return out
}

// canBeProjected looks at all procedures, called or not.
func canBeProjected(p api.Play) bool {
	main, bodies := bodySpots(p)
	none := func(l []spot, roles []string) bool {
		return !slices.ContainsFunc(l, func(s spot) bool {
			return slices.ContainsFunc(roles, func(role string) bool { return isBlind(s.Step, role) })
		})
	}
	for i, q := range p.Procs {
		if !none(bodies[i], q.Params) {
			return false
		}
	}
	return none(main, rolesOf(p))
}

// without leaves out the step with a number, and counts the steps.
func without(l []api.Step, n int, next *int) []api.Step {
	var out []api.Step
	for _, s := range l {
		at := *next
		*next++
		s.Then = without(s.Then, n, next)
		s.Else = without(s.Else, n, next)
		if at != n {
			out = append(out, s)
		}
	}
	return out
}

func playWithout(p api.Play, n int) api.Play {
	next := 0
	out := api.Play{Main: without(p.Main, n, &next)}
	for _, q := range p.Procs {
		q.Body = without(q.Body, n, &next)
		out.Procs = append(out.Procs, q)
	}
	return out
}

// tellNumbers are those of selections for which is holds.
func tellNumbers(p api.Play, is func(s api.Step) bool) []int {
	main, bodies := bodySpots(p)
	var out []int
	for _, s := range slices.Concat(append([][]spot{main}, bodies...)...) {
		if s.Kind == api.StepTell && is(s.Step) {
			out = append(out, s.number)
		}
	}
	return out
}

func isAny(api.Step) bool { return true }

func isMarked(s api.Step) bool { return s.Var == mark }

func oracleSpare(p api.Play) ([]int, api.Errno) {
	if !canBeProjected(p) {
		return nil, api.ErrRule
	}
	var out []int
	for _, n := range tellNumbers(p, isAny) {
		if canBeProjected(playWithout(p, n)) {
			out = append(out, n)
		}
	}
	return out, api.OK
}

// repaired has the selections that are needed first.
func repaired(l []api.Step, roles []string) []api.Step {
	var out []api.Step
	for _, s := range l {
		s.Then, s.Else = repaired(s.Then, roles), repaired(s.Else, roles)
		put := 0
		for _, role := range roles {
			if isBlind(s, role) {
				tell := api.Step{Kind: api.StepTell, Role: s.Role, To: role, Label: "yes", Var: mark}
				s.Then = slices.Insert(s.Then, put, tell)
				tell.Label = "no"
				s.Else = slices.Insert(s.Else, put, tell)
				put++
			}
		}
		out = append(out, s)
	}
	return out
}

// unmarked takes the marks away.
func unmarked(l []api.Step) []api.Step {
	var out []api.Step
	for _, s := range l {
		if isMarked(s) {
			s.Var = ""
		}
		s.Then, s.Else = unmarked(s.Then), unmarked(s.Else)
		out = append(out, s)
	}
	return out
}

// amended is what Amend has to return, and how many selections were left out again: those for which others had to be left out first are counted once more.
type amended struct {
	play        api.Play
	left        int
	numbers     []int // of the selections that were added and left in
	out, behind int
}

func oracleAmend(p api.Play) amended {
	var a amended
	roles := rolesOf(p)
	a.play.Main = repaired(p.Main, roles)
	for _, q := range p.Procs {
		q.Body = repaired(q.Body, q.Params)
		a.play.Procs = append(a.play.Procs, q)
	}
	last := -1
	for n := a.first(); n >= 0; n = a.first() {
		a.play = playWithout(a.play, n)
		a.out++
		if n < last {
			a.behind++
		}
		last = n
	}
	a.numbers = tellNumbers(a.play, isMarked)
	a.left = len(a.numbers)
	a.play.Main = unmarked(a.play.Main)
	for i, q := range a.play.Procs {
		a.play.Procs[i].Body = unmarked(q.Body)
	}
	return a
}

// first is the number of the first selection that was added and can be left out, -1 if there is none.
func (a *amended) first() int {
	for _, n := range tellNumbers(a.play, isMarked) {
		if canBeProjected(playWithout(a.play, n)) {
			return n
		}
	}
	return -1
}

func oraclePlain(p api.Play) (api.Play, int) {
	count := 0
	for numbers := tellNumbers(p, isAny); len(numbers) > 0; numbers = tellNumbers(p, isAny) {
		p = playWithout(p, numbers[0])
		count++
	}
	return p, count
}

func oracleTaken(p api.Play, role string) []int {
	main, _ := bodySpots(p)
	var out []int
	for _, s := range main {
		if takes(s.Step, role) {
			out = append(out, s.number)
		}
	}
	return out
}

func takes(s api.Step, role string) bool {
	within := func(s api.Step) bool { return takes(s, role) }
	return s.Role == role || s.To == role || slices.Contains(s.Args, role) || slices.ContainsFunc(s.Then, within) || slices.ContainsFunc(s.Else, within)
}
