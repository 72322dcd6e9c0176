package net

import (
	"cmp"
	"slices"

	"promptbook/api"
)

// names are those of roles.
func (n *network) names(l []int) []string {
	var out []string
	for _, who := range l {
		out = append(out, n.roles[who].Role)
	}
	return out
}

// busy are the roles that have not ended in a state.
func (n *network) busy(s state) []string {
	var out []string
	for who, r := range n.roles {
		if n.moment(s, who).rest != nil {
			out = append(out, r.Role)
		}
	}
	return out
}

// stores are those of a state, without roles that have no variables.
func (n *network) stores(s state) []api.Store {
	var out []api.Store
	for who, r := range n.roles {
		if vars := n.moment(s, who).slots(); len(vars) > 0 {
			out = append(out, api.Store{Role: r.Role, Vars: vars})
		}
	}
	return out
}

// queues are those of a state that are not empty, by From, then To.
func (n *network) queues(s state) []api.Queue {
	var out []api.Queue
	for _, t := range n.tapes {
		if letters := n.queue(s, t).waiting(); len(letters) > 0 {
			out = append(out, api.Queue{From: t.from, To: t.to, Letters: slices.Clone(letters)})
		}
	}
	slices.SortFunc(out, func(a, b api.Queue) int {
		return cmp.Or(cmp.Compare(a.From, b.From), cmp.Compare(a.To, b.To))
	})
	return out
}

// written is a state in the form of api.
func (n *network) written(s state) api.State {
	out := api.State{Queues: n.queues(s)}
	for who, r := range n.roles {
		m := n.moment(s, who)
		out.Nodes = append(out.Nodes, api.Node{Role: r.Role, Rest: m.rest.written(), Vars: m.slots()})
	}
	return out
}
