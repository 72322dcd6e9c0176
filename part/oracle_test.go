package part_test

import (
	"fmt"
	"maps"
	"slices"
	"strings"

	"promptbook/api"
	"promptbook/script"
	"promptbook/value"
)

// lists are those within an act.
func lists(a api.Act) [][]api.Act {
	out := [][]api.Act{}
	if a.Kind == api.ActIf {
		out = append(out, a.Then, a.Else)
	}
	for _, o := range a.Offers {
		out = append(out, o.Body)
	}
	return out
}

// all are the acts of a list, with those within them, by their numbers.
func all(l []api.Act) []api.Act {
	var out []api.Act
	for _, a := range l {
		out = append(out, a)
		for _, block := range lists(a) {
			out = append(out, all(block)...)
		}
	}
	return out
}

func allOf(p api.Part) []api.Act {
	out := all(p.Main)
	for _, l := range p.Locals {
		out = append(out, all(l.Body)...)
	}
	return out
}

func localOf(p api.Part, a api.Act) int {
	return slices.IndexFunc(p.Locals, func(l api.Local) bool { return l.Key == a.Proc && l.Index == a.Index })
}

// called are the Locals that Main calls, directly or by way of others.
func called(p api.Part) []bool {
	out := make([]bool, len(p.Locals))
	var visit func(l []api.Act)
	visit = func(l []api.Act) {
		for _, a := range all(l) {
			if i := localOf(p, a); a.Kind == api.ActCall && !out[i] {
				out[i] = true
				visit(p.Locals[i].Body)
			}
		}
	}
	visit(p.Main)
	return out
}

// put replaces names of roles in acts.
func put(l []api.Act, names map[string]string) []api.Act {
	of := func(s string) string {
		if to, ok := names[s]; ok {
			return to
		}
		return s
	}
	return change(l, func(a api.Act) []api.Act {
		a.With = of(a.With)
		a.Args = slices.Clone(a.Args)
		for i := range a.Args {
			a.Args[i] = of(a.Args[i])
		}
		return []api.Act{a}
	})
}

// change puts acts in the place of each act, from inside to outside.
func change(l []api.Act, by func(a api.Act) []api.Act) []api.Act {
	var out []api.Act
	for _, a := range l {
		a.Then, a.Else = change(a.Then, by), change(a.Else, by)
		offers := a.Offers
		a.Offers = nil
		for _, o := range offers {
			a.Offers = append(a.Offers, api.Offer{Label: o.Label, Body: change(o.Body, by)})
		}
		out = append(out, by(a)...)
	}
	return out
}

func changeOf(p api.Part, by func(a api.Act) []api.Act) api.Part {
	p.Main = change(p.Main, by)
	p.Locals = slices.Clone(p.Locals)
	for i, l := range p.Locals {
		p.Locals[i].Body = change(l.Body, by)
	}
	return p
}

// bodyFor is the Body of the Local that an act calls, with its Args in the place of Params.
func bodyFor(p api.Part, a api.Act) []api.Act {
	l := p.Locals[localOf(p, a)]
	names := map[string]string{}
	for i, param := range l.Params {
		names[param] = a.Args[i]
	}
	return put(l.Body, names)
}

// runLiterally does what P6.4 says.
func runLiterally(p api.Part, v []api.Slot, mail []api.Heard, fuel int) (api.Drive, api.Errno) {
	vars := map[string]int{}
	for _, s := range v {
		vars[s.Name] = s.Value
	}
	eval := func(e api.Expr) int {
		n, _ := value.Eval(e, slotsOf(vars))
		return n
	}
	var d api.Drive
	rest := p.Main
	mail = slices.Clone(mail)
	finish := func(state int, with string) (api.Drive, api.Errno) {
		d.State, d.With, d.Vars = state, with, slotsOf(vars)
		return d, api.OK
	}
	for ; len(rest) > 0; fuel-- {
		a := rest[0]
		var h api.Heard
		if a.Kind == api.ActTake || a.Kind == api.ActOffer {
			i := slices.IndexFunc(mail, func(h api.Heard) bool { return h.With == a.With })
			if i < 0 {
				return finish(api.DriveWaits, a.With)
			}
			h = mail[i]
			offered := slices.ContainsFunc(a.Offers, func(o api.Offer) bool { return o.Label == h.Label })
			if (h.Label == "") != (a.Kind == api.ActTake) || a.Kind == api.ActOffer && !offered {
				return finish(api.DriveRefuses, a.With)
			}
			mail = slices.Delete(mail, i, i+1)
		}
		if fuel == 0 {
			return api.Drive{}, api.ErrFull
		}
		rest = rest[1:]
		e := api.Event{Role: p.Role, Kind: a.Kind, With: a.With}
		switch a.Kind {
		case api.ActSend:
			e.Value = eval(a.Expr)
		case api.ActTake:
			e.Name, e.Value = a.Var, h.Value
			vars[a.Var] = h.Value
			d.Taken++
		case api.ActTell:
			e.Name = a.Label
		case api.ActOffer:
			e.Name = h.Label
			d.Taken++
			for _, o := range a.Offers {
				if o.Label == h.Label {
					rest = slices.Concat(o.Body, rest)
				}
			}
		case api.ActSet:
			e.Name, e.Value = a.Var, eval(a.Expr)
			vars[a.Var] = e.Value
		case api.ActIf:
			if eval(a.Expr) != 0 {
				e.Value = 1
				rest = slices.Concat(a.Then, rest)
			} else {
				rest = slices.Concat(a.Else, rest)
			}
		case api.ActCall:
			rest = slices.Concat(bodyFor(p, a), rest)
			continue
		}
		d.Events = append(d.Events, e)
	}
	return finish(api.DriveEnds, "")
}

func slotsOf(vars map[string]int) []api.Slot {
	var l []api.Slot
	for _, name := range slices.Sorted(maps.Keys(vars)) {
		if vars[name] != 0 {
			l = append(l, api.Slot{Name: name, Value: vars[name]})
		}
	}
	return l
}

// partnersLiterally does all calls with all lists of Args.
func partnersLiterally(p api.Part) []api.Partner {
	found := map[string]*api.Partner{}
	seen := map[string]bool{}
	add := func(l []string, s string) []string {
		if !slices.Contains(l, s) {
			l = append(l, s)
		}
		slices.Sort(l)
		return l
	}
	var visit func(l []api.Act)
	visit = func(l []api.Act) {
		for _, a := range all(l) {
			if a.Kind == api.ActCall {
				key := fmt.Sprint(a.Proc, a.Index, a.Args)
				if !seen[key] {
					seen[key] = true
					visit(bodyFor(p, a))
				}
			}
			if a.With == "" {
				continue
			}
			if found[a.With] == nil {
				found[a.With] = &api.Partner{With: a.With}
			}
			one := found[a.With]
			one.Sends = one.Sends || a.Kind == api.ActSend
			one.Takes = one.Takes || a.Kind == api.ActTake
			if a.Kind == api.ActTell {
				one.Tells = add(one.Tells, a.Label)
			}
			for _, o := range a.Offers {
				one.Offers = add(one.Offers, o.Label)
			}
		}
	}
	visit(p.Main)
	var out []api.Partner
	for _, with := range slices.Sorted(maps.Keys(found)) {
		out = append(out, *found[with])
	}
	return out
}

// spot is a place between acts: before the act `at` of a list.
type spot struct{ list, at int }

// maze has all lists of a part: Main, the Bodies of Locals, then those within.
type maze struct {
	part   api.Part
	lists  [][]api.Act
	behind []spot         // of a list within an act, where it goes on; list -1 for the first ones
	within map[spot][]int // the lists within the act at a spot
	called []bool
}

func newMaze(p api.Part) *maze {
	m := &maze{part: p, within: map[spot][]int{}, called: called(p)}
	m.add(p.Main, spot{-1, 0})
	for _, l := range p.Locals {
		m.add(l.Body, spot{-1, 0})
	}
	for i := 0; i < len(m.lists); i++ {
		for k, a := range m.lists[i] {
			for _, block := range lists(a) {
				m.within[spot{i, k}] = append(m.within[spot{i, k}], len(m.lists))
				m.add(block, spot{i, k + 1})
			}
		}
	}
	return m
}

func (m *maze) add(l []api.Act, behind spot) {
	m.lists = append(m.lists, l)
	m.behind = append(m.behind, behind)
}

// owner is the first list within which a list stands: 0 is Main, others are Locals.
func (m *maze) owner(list int) int {
	for m.behind[list].list >= 0 {
		list = m.behind[list].list
	}
	return list
}

// sites are the spots behind all ActCalls of a Local in Main and in Locals that are called.
func (m *maze) sites(local int) []spot {
	var out []spot
	for i, l := range m.lists {
		if o := m.owner(i); o > 0 && !m.called[o-1] {
			continue
		}
		for k, a := range l {
			if a.Kind == api.ActCall && localOf(m.part, a) == local {
				out = append(out, spot{i, k + 1})
			}
		}
	}
	return out
}

// way is where one has come: the spot, and where the bodies into which one came by calls go on.
type way struct {
	at    spot
	stack []spot
}

// onward are the ways on from a place behind an act, or at the beginning, without those over the next act.
func (m *maze) onward(w way) (next []way, atAct bool) {
	if w.at.at < len(m.lists[w.at.list]) {
		return nil, true
	}
	if m.behind[w.at.list].list >= 0 {
		return []way{{m.behind[w.at.list], w.stack}}, false
	}
	if n := len(w.stack); n > 0 {
		return []way{{w.stack[n-1], w.stack[:n-1]}}, false
	}
	if w.at.list > 0 {
		for _, s := range m.sites(w.at.list - 1) {
			next = append(next, way{s, nil})
		}
	}
	return next, false
}

// over are the ways on over the next act.
func (m *maze) over(w way) []way {
	behind := spot{w.at.list, w.at.at + 1}
	a := m.lists[w.at.list][w.at.at]
	if a.Kind == api.ActCall {
		return []way{{spot{1 + localOf(m.part, a), 0}, append(slices.Clone(w.stack), behind)}}
	}
	if within := m.within[w.at]; len(within) > 0 {
		var out []way
		for _, l := range within {
			out = append(out, way{spot{l, 0}, w.stack})
		}
		return out
	}
	return []way{{behind, w.stack}}
}

// needed does what P6.5 says, way by way. A way on which bodies are nested deeper than twice the number of Locals has a shorter one beside it.
func (m *maze) needed(from spot, variable string) bool {
	seen := map[string]bool{}
	for todo := []way{{from, nil}}; len(todo) > 0; {
		w := todo[0]
		todo = todo[1:]
		key := fmt.Sprint(w)
		if seen[key] || len(w.stack) > 2*len(m.part.Locals)+1 {
			continue
		}
		seen[key] = true
		next, atAct := m.onward(w)
		if atAct {
			a := m.lists[w.at.list][w.at.at]
			if names, _ := value.Vars(a.Expr); slices.Contains(names, variable) {
				return true
			}
			if a.Var == variable {
				continue
			}
			next = m.over(w)
		}
		todo = append(todo, next...)
	}
	return false
}

// shortestLiterally goes all ways from the beginning of Main, those with fewer acts first.
func shortestLiterally(p api.Part) (int, bool) {
	m := newMaze(p)
	seen := map[string]bool{}
	level := []way{{}}
	for cost := 0; len(level) > 0; cost++ {
		var later []way
		for todo := level; len(todo) > 0; {
			w := todo[0]
			todo = todo[1:]
			key := fmt.Sprint(w)
			if seen[key] || len(w.stack) > len(p.Locals)+1 {
				continue
			}
			seen[key] = true
			next, atAct := m.onward(w)
			switch {
			case !atAct && w.at.list == 0:
				return cost, true
			case !atAct:
				todo = append(todo, next...)
			case m.lists[w.at.list][w.at.at].Kind == api.ActCall:
				todo = append(todo, m.over(w)...)
			default:
				later = append(later, m.over(w)...)
			}
		}
		level = later
	}
	return 0, false
}

// slimLiterally does what P6.5 says.
func slimLiterally(p api.Part) (api.Part, int) {
	first := len(allOf(p))
	for {
		before := fmt.Sprint(p)
		p = changeOf(p, func(a api.Act) []api.Act {
			if a.Expr.Op != 0 {
				a.Expr, _ = value.Simple(a.Expr)
			}
			return []api.Act{a}
		})
		p = changeOf(p, func(a api.Act) []api.Act {
			switch {
			case a.Kind != api.ActIf:
			case a.Expr.Op == api.OpNumber && a.Expr.N != 0:
				return a.Then
			case a.Expr.Op == api.OpNumber:
				return a.Else
			case fmt.Sprint(a.Then) == fmt.Sprint(a.Else):
				return a.Then
			}
			return []api.Act{a}
		})
		p = withoutUnneeded(p)
		keep := called(p)
		var locals []api.Local
		for i, l := range p.Locals {
			if keep[i] {
				locals = append(locals, l)
			}
		}
		p.Locals = locals
		if fmt.Sprint(p) == before {
			return p, first - len(allOf(p))
		}
	}
}

// withoutUnneeded is step 3 of P6.5.
func withoutUnneeded(p api.Part) api.Part {
	m := newMaze(p)
	var rebuilt func(list int) []api.Act
	rebuilt = func(list int) []api.Act {
		var out []api.Act
		for k, a := range m.lists[list] {
			if a.Kind == api.ActSet && !m.needed(spot{list, k + 1}, a.Var) {
				continue
			}
			within := m.within[spot{list, k}]
			switch a.Kind {
			case api.ActIf:
				a.Then, a.Else = rebuilt(within[0]), rebuilt(within[1])
			case api.ActOffer:
				a.Offers = slices.Clone(a.Offers)
				for i := range a.Offers {
					a.Offers[i].Body = rebuilt(within[i])
				}
			}
			out = append(out, a)
		}
		return out
	}
	p.Main = rebuilt(0)
	p.Locals = slices.Clone(p.Locals)
	for i := range p.Locals {
		p.Locals[i].Body = rebuilt(1 + i)
	}
	return p
}

// refinesLiterally lets all Locals fit all others at first, and goes on until nothing more speaks against it.
func refinesLiterally(a, b api.Part) bool {
	against := map[[2]int]bool{}
	var fit func(x, y []api.Act) bool
	fitActs := func(x, y api.Act) bool {
		e, _ := value.Simple(x.Expr)
		f, _ := value.Simple(y.Expr)
		if x.Kind != y.Kind || x.With != y.With || x.Var != y.Var || x.Label != y.Label || x.Index != y.Index || fmt.Sprint(x.Args) != fmt.Sprint(y.Args) || fmt.Sprint(e) != fmt.Sprint(f) {
			return false
		}
		for _, o := range y.Offers {
			i := slices.IndexFunc(x.Offers, func(other api.Offer) bool { return other.Label == o.Label })
			if i < 0 || !fit(x.Offers[i].Body, o.Body) {
				return false
			}
		}
		return fit(x.Then, y.Then) && fit(x.Else, y.Else) && (x.Kind != api.ActCall || !against[[2]int{localOf(a, x), localOf(b, y)}])
	}
	fit = func(x, y []api.Act) bool {
		if len(x) != len(y) {
			return false
		}
		for i := range x {
			if !fitActs(x[i], y[i]) {
				return false
			}
		}
		return true
	}
	for more := true; more; {
		more = false
		for i, l := range a.Locals {
			for k, o := range b.Locals {
				if at := [2]int{i, k}; !against[at] && (fmt.Sprint(l.Params) != fmt.Sprint(o.Params) || !fit(l.Body, o.Body)) {
					against[at], more = true, true
				}
			}
		}
	}
	return a.Role == b.Role && fit(a.Main, b.Main)
}

// textLiterally does what P6.2 says.
func textLiterally(p api.Part) string {
	var b strings.Builder
	var put func(l []api.Act, before string)
	put = func(l []api.Act, before string) {
		for _, a := range l {
			e, _ := script.ExprText(a.Expr)
			b.WriteString(before)
			switch a.Kind {
			case api.ActSend:
				fmt.Fprintf(&b, "send %s %s;\n", a.With, e)
			case api.ActTake:
				fmt.Fprintf(&b, "take %s %s;\n", a.With, a.Var)
			case api.ActTell:
				fmt.Fprintf(&b, "tell %s %s;\n", a.With, a.Label)
			case api.ActSet:
				fmt.Fprintf(&b, "set %s %s;\n", a.Var, e)
			case api.ActCall:
				fmt.Fprintf(&b, "call %s %d (%s);\n", a.Proc, a.Index, strings.Join(a.Args, ", "))
			case api.ActIf:
				fmt.Fprintf(&b, "if %s {\n", e)
				put(a.Then, before+"  ")
				fmt.Fprintf(&b, "%s} else {\n", before)
				put(a.Else, before+"  ")
				fmt.Fprintf(&b, "%s}\n", before)
			case api.ActOffer:
				fmt.Fprintf(&b, "offer %s {\n", a.With)
				for _, o := range a.Offers {
					fmt.Fprintf(&b, "%s  %s {\n", before, o.Label)
					put(o.Body, before+"    ")
					fmt.Fprintf(&b, "%s  }\n", before)
				}
				fmt.Fprintf(&b, "%s}\n", before)
			}
		}
	}
	fmt.Fprintf(&b, "part %s {\n", p.Role)
	put(p.Main, "  ")
	b.WriteString("}\n")
	for _, l := range p.Locals {
		fmt.Fprintf(&b, "local %s %d (%s) {\n", l.Key, l.Index, strings.Join(l.Params, ", "))
		put(l.Body, "  ")
		b.WriteString("}\n")
	}
	return b.String()
}
