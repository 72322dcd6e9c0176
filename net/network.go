package net

import (
	"slices"

	"promptbook/api"
	"promptbook/catalog"
)

// nobody stands where there is no index of a role.
const nobody = -1

// network is all roles, with what they have done so far in any order of moves. Each queue has one role that puts letters into it and one that takes them, and no role can ask whether a letter is there. So only how far each role has come depends on the order: the moves that a role makes are always the same, and so are the letters that are put into a queue.
type network struct {
	*catalog.Catalog
	contents *shelf[queue] // of queues that are not empty
	roles    []*role
	tapes    []*tape
	where    map[ends]*tape
}

// state is how many moves each role has made.
type state []int

func newNetwork(p []api.Part, s []api.Store) *network {
	n := &network{Catalog: catalog.New(), contents: newShelf(sameLetters), where: map[ends]*tape{}}
	for _, one := range p {
		n.roles = append(n.roles, newRole(one, n))
	}
	for _, r := range n.roles {
		r.begin(s)
	}
	return n
}

func (n *network) beginning() state {
	return make(state, len(n.roles))
}

// indexOf is that of a role; nobody if there is no part of it.
func (n *network) indexOf(name string) int {
	return slices.IndexFunc(n.roles, func(r *role) bool { return r.Role == name })
}

// moment is that of a role in a state.
func (n *network) moment(s state, who int) *moment {
	return n.roles[who].moments[s[who]]
}

// able says whether a role is able to move, with this room in queues.
func (n *network) able(s state, who, room int) bool {
	m := n.moment(s, who)
	if m.rest == nil {
		return false
	}
	a := m.rest.act()
	switch {
	case a.puts():
		return room == 0 || len(n.queue(s, a.tape).waiting()) < room
	case a.takes():
		letters := n.queue(s, a.tape).waiting()
		return len(letters) > 0 && a.fits(letters[0])
	}
	return true
}

// ables are the roles that are able to move, rising.
func (n *network) ables(s state, room int) []int {
	var out []int
	for who := range n.roles {
		if n.able(s, who, room) {
			out = append(out, who)
		}
	}
	return out
}

// after is the state after a move of a role that is able to move.
func (n *network) after(s state, who int) state {
	next := slices.Clone(s)
	next[who]++
	if r := n.roles[who]; next[who] == len(r.moments) {
		r.move()
	}
	return next
}
