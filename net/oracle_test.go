package net_test

import (
	"cmp"
	"fmt"
	"slices"

	"promptbook/api"
	"promptbook/value"
)

// This file does what the chapter says word by word, with whole states.

// put replaces names of roles in acts.
func put(l []api.Act, names map[string]string) []api.Act {
	of := func(s string) string {
		if to, ok := names[s]; ok {
			return to
		}
		return s
	}
	var out []api.Act
	for _, a := range l {
		a.With = of(a.With)
		var args []string
		for _, role := range a.Args {
			args = append(args, of(role))
		}
		a.Args = args
		a.Then, a.Else = put(a.Then, names), put(a.Else, names)
		var offers []api.Offer
		for _, o := range a.Offers {
			offers = append(offers, api.Offer{Label: o.Label, Body: put(o.Body, names)})
		}
		a.Offers = offers
		out = append(out, a)
	}
	return out
}

// opening is the state at the beginning.
func opening(p []api.Part, s []api.Store) api.State {
	var st api.State
	for _, one := range p {
		n := api.Node{Role: one.Role, Rest: one.Main}
		for _, store := range s {
			if store.Role == one.Role {
				n.Vars = store.Vars
			}
		}
		st.Nodes = append(st.Nodes, n)
	}
	return st
}

func lettersOf(st api.State, from, to string) []api.Letter {
	for _, q := range st.Queues {
		if q.From == from && q.To == to {
			return q.Letters
		}
	}
	return nil
}

// withLetters are queues of which one is another one.
func withLetters(l []api.Queue, from, to string, letters []api.Letter) []api.Queue {
	var out []api.Queue
	for _, q := range l {
		if q.From != from || q.To != to {
			out = append(out, q)
		}
	}
	if len(letters) > 0 {
		out = append(out, api.Queue{From: from, To: to, Letters: letters})
	}
	slices.SortFunc(out, func(a, b api.Queue) int { return cmp.Or(cmp.Compare(a.From, b.From), cmp.Compare(a.To, b.To)) })
	return out
}

func withValue(l []api.Slot, name string, n int) []api.Slot {
	var out []api.Slot
	for _, v := range l {
		if v.Name != name {
			out = append(out, v)
		}
	}
	if n != 0 {
		out = append(out, api.Slot{Name: name, Value: n})
	}
	slices.SortFunc(out, func(a, b api.Slot) int { return cmp.Compare(a.Name, b.Name) })
	return out
}

// moved is the state after the move of a role; false if it is not able to move.
func moved(p []api.Part, st api.State, i, room int) (api.State, []api.Event, bool) {
	node := st.Nodes[i]
	if len(node.Rest) == 0 {
		return st, nil, false
	}
	a := node.Rest[0]
	node.Rest = node.Rest[1:]
	e := api.Event{Role: node.Role, Kind: a.Kind, With: a.With}
	before := func(l []api.Act) { node.Rest = append(slices.Clone(l), node.Rest...) }
	eval := func() int { n, _ := value.Eval(a.Expr, node.Vars); return n }
	queues := st.Queues
	switch a.Kind {
	case api.ActSend, api.ActTell:
		l := lettersOf(st, node.Role, a.With)
		if room > 0 && len(l) >= room {
			return st, nil, false
		}
		letter := api.Letter{Label: a.Label}
		if a.Kind == api.ActSend {
			letter.Value = eval()
		}
		e.Name, e.Value = a.Label, letter.Value
		queues = withLetters(queues, node.Role, a.With, append(slices.Clone(l), letter))
	case api.ActTake, api.ActOffer:
		l := lettersOf(st, a.With, node.Role)
		if len(l) == 0 {
			return st, nil, false
		}
		if a.Kind == api.ActTake {
			if l[0].Label != "" {
				return st, nil, false
			}
			e.Name, e.Value = a.Var, l[0].Value
			node.Vars = withValue(node.Vars, a.Var, e.Value)
		} else {
			k := slices.IndexFunc(a.Offers, func(o api.Offer) bool { return o.Label == l[0].Label })
			if k < 0 {
				return st, nil, false
			}
			e.Name = l[0].Label
			before(a.Offers[k].Body)
		}
		queues = withLetters(queues, a.With, node.Role, l[1:])
	case api.ActSet:
		e.Name, e.Value = a.Var, eval()
		node.Vars = withValue(node.Vars, a.Var, e.Value)
	case api.ActIf:
		if eval() != 0 {
			e.Value = 1
			before(a.Then)
		} else {
			before(a.Else)
		}
	case api.ActCall:
		for _, l := range p[i].Locals {
			if l.Key == a.Proc && l.Index == a.Index {
				names := map[string]string{}
				for k, param := range l.Params {
					names[param] = a.Args[k]
				}
				before(put(l.Body, names))
			}
		}
		next := api.State{Nodes: slices.Clone(st.Nodes), Queues: queues}
		next.Nodes[i] = node
		return next, nil, true
	}
	next := api.State{Nodes: slices.Clone(st.Nodes), Queues: queues}
	next.Nodes[i] = node
	return next, []api.Event{e}, true
}

// able are the indices of the roles that are able to move.
func able(p []api.Part, st api.State, room int) []int {
	var out []int
	for i := range st.Nodes {
		if _, _, ok := moved(p, st, i, room); ok {
			out = append(out, i)
		}
	}
	return out
}

func storesOf(st api.State) []api.Store {
	var out []api.Store
	for _, n := range st.Nodes {
		if len(n.Vars) > 0 {
			out = append(out, api.Store{Role: n.Role, Vars: n.Vars})
		}
	}
	return out
}

// hasEnded says whether all roles have ended, and all queues are empty.
func hasEnded(st api.State) bool {
	return len(st.Queues) == 0 && !slices.ContainsFunc(st.Nodes, func(n api.Node) bool { return len(n.Rest) > 0 })
}

// searched is what can be found out about all states.
type searched struct {
	told api.Explored
	dead []string
	is   bool
	ends [][]api.Store
}

// search goes through all states, by the number of moves; false if there are more than most.
func search(p []api.Part, s []api.Store, room, most int) (searched, bool) {
	type found struct {
		state api.State
		list  []string
	}
	first := opening(p, s)
	seen := map[string]bool{fmt.Sprint(first): true}
	var out searched
	for layer := []found{{state: first}}; len(layer) > 0; {
		next := map[string]found{}
		for _, f := range layer {
			out.told.States++
			for _, q := range f.state.Queues {
				out.told.Longest = max(out.told.Longest, len(q.Letters))
			}
			movers := able(p, f.state, room)
			out.told.Moves += len(movers)
			if len(movers) == 0 {
				out.stop(f.state, f.list)
			}
			for _, i := range movers {
				st, _, _ := moved(p, f.state, i, room)
				key, list := fmt.Sprint(st), append(slices.Clone(f.list), p[i].Role)
				if other, known := next[key]; known && slices.Compare(other.list, list) <= 0 || seen[key] {
					continue
				}
				next[key] = found{st, list}
			}
		}
		layer = nil
		for key, f := range next {
			seen[key] = true
			layer = append(layer, f)
		}
		if len(seen) > most {
			return searched{}, false
		}
	}
	slices.SortFunc(out.ends, compareEnds)
	return out, true
}

// stop adds a state in which no role is able to move.
func (out *searched) stop(st api.State, list []string) {
	if hasEnded(st) {
		out.told.Ends++
	} else {
		out.told.Deads++
		if !out.is || len(list) < len(out.dead) || len(list) == len(out.dead) && slices.Compare(list, out.dead) < 0 {
			out.dead, out.is = list, true
		}
	}
	if l := storesOf(st); !slices.ContainsFunc(out.ends, func(other []api.Store) bool { return fmt.Sprint(other) == fmt.Sprint(l) }) {
		out.ends = append(out.ends, l)
	}
}

func compareEnds(a, b []api.Store) int {
	if len(a) != len(b) {
		return cmp.Compare(len(a), len(b))
	}
	for i := range a {
		x, y := a[i], b[i]
		if c := cmp.Or(cmp.Compare(x.Role, y.Role), cmp.Compare(len(x.Vars), len(y.Vars))); c != 0 {
			return c
		}
		for k := range x.Vars {
			if c := cmp.Or(cmp.Compare(x.Vars[k].Name, y.Vars[k].Name), cmp.Compare(x.Vars[k].Value, y.Vars[k].Value)); c != 0 {
				return c
			}
		}
	}
	return 0
}
