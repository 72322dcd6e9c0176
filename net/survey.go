package net

import (
	"slices"

	"promptbook/api"
)

// survey is all states that a network can reach, in the order in which they are found: those after fewer moves first, and among these by the least list of moves to them, role by role.
type survey struct {
	*network
	room   int
	states []reached
	seen   map[int]bool // the keys of states
	told   api.Explored
	still  int // the state in which no role is able, or noState. There is only one: a role that is able stays so until it moves, whatever others do, so that all orders that come to an end come to the same one.
}

// reached is a state, and how it was found.
type reached struct {
	state
	key    int // a list of the faces of all roles, and then of the numbers of what is in the queues: equal states have equal keys
	before int // the state from which it was found
	by     int // who moved there
}

// noState stands where there is no index of a state.
const noState = -1

// surveyed is the survey of a network.
func surveyed(p []api.Part, s []api.Store, room, most int) (*survey, api.Errno) {
	if err := checkNet(p, s); err != api.OK {
		return nil, err
	}
	if !isRoom(room) || !isStates(most) {
		return nil, api.ErrArg
	}
	return explore(newNetwork(p, s), room, most)
}

// explore finds all states, if there are not more than most.
func explore(n *network, room, most int) (*survey, api.Errno) {
	v := &survey{network: n, room: room, seen: map[int]bool{}, still: noState}
	first := reached{state: n.beginning()}
	for who := range n.roles {
		first.key = n.Set(first.key, who, n.moment(first.state, who).face)
	}
	v.add(first)
	for i := 0; i < len(v.states); i++ {
		able := n.ables(v.states[i].state, room)
		v.told.Moves += len(able)
		if len(able) == 0 {
			v.stop(i)
		}
		for _, who := range able {
			v.follow(i, who)
			if len(v.states) > most {
				return nil, api.ErrFull
			}
		}
	}
	v.told.States = len(v.states)
	return v, api.OK
}

// add adds a state, if it was not seen before.
func (v *survey) add(s reached) {
	if !v.seen[s.key] {
		v.seen[s.key] = true
		v.states = append(v.states, s)
	}
}

// stop is that no role is able in a state.
func (v *survey) stop(i int) {
	v.still = i
	s := v.states[i].state
	if len(v.busy(s)) == 0 && len(v.queues(s)) == 0 {
		v.told.Ends++
	} else {
		v.told.Deads++
	}
}

// follow adds the state to which a move leads.
func (v *survey) follow(i, who int) {
	from := v.states[i]
	a := v.moment(from.state, who).rest.act()
	next := reached{state: v.after(from.state, who), before: i, by: who}
	next.key = v.Set(from.key, who, v.moment(next.state, who).face)
	if t := a.tape; t != nil {
		q := v.queue(next.state, t)
		v.told.Longest = max(v.told.Longest, len(q.waiting()))
		next.key = v.Set(next.key, len(v.roles)+t.number, v.content(q))
	}
	v.add(next)
}

// path is who moved from the beginning to a state.
func (v *survey) path(i int) []string {
	var moves []int
	for ; i > 0; i = v.states[i].before {
		moves = append(moves, v.states[i].by)
	}
	slices.Reverse(moves)
	return v.names(moves)
}

// ends are the stores of all states in which no role is able: as there is at most one, they need no order.
func (v *survey) ends() [][]api.Store {
	if v.still == noState {
		return nil
	}
	return [][]api.Store{v.stores(v.states[v.still].state)}
}

// sameStores compares two lists of stores.
func sameStores(a, b []api.Store) bool {
	return slices.EqualFunc(a, b, func(x, y api.Store) bool { return x.Role == y.Role && slices.Equal(x.Vars, y.Vars) })
}
