package net

import (
	"maps"
	"slices"

	"promptbook/api"
	"promptbook/cast"
	"promptbook/meaning"
	"promptbook/raw"
)

// role has the moments of a role that are known, by how many moves it has made.
type role struct {
	*copyist
	rests   *shelf[*rest]
	places  map[string]int // of variables in lists of values
	moments []*moment
}

// moment is a role between two moves.
type moment struct {
	role  *role
	event api.Event // of the move before; its Kind is 0 if that has none
	rest  *rest
	vars  int // the list of the values of variables, by places
	mail  int // the list of how many letters were put on tapes, or taken from them, by the numbers of the tapes
	face  int // moments with equal rests and equal variables have equal faces
}

func newRole(p api.Part, n *network) *role {
	return &role{copyist: newCopyist(p, n), rests: newShelf(sameActs), places: map[string]int{}}
}

// begin adds the first moment.
func (r *role) begin(s []api.Store) {
	m := moment{role: r, rest: r.rest(r.list(r.Main, cast.Cast{}), 0, nil)}
	for _, one := range s {
		if one.Role == r.Role {
			for _, v := range one.Vars {
				m.set(v.Name, v.Value)
			}
		}
	}
	r.add(m)
}

func (r *role) add(m moment) {
	left := 0
	if m.rest != nil {
		left = m.rest.number
	}
	m.face = r.network.Pair(left, m.vars)
	r.moments = append(r.moments, &m)
}

// move adds the next moment. If a letter is needed for it, it is on its tape.
func (r *role) move() {
	m := *r.moments[len(r.moments)-1]
	a := m.rest.act()
	m.rest = r.behind(m.rest)
	e := api.Event{Role: r.Role, Kind: a.head.Kind, With: a.head.With}
	if a.value != nil {
		e.Value = a.value(m.get)
	}
	switch a.head.Kind {
	case api.ActSend:
		m.put(a.tape, api.Letter{Value: e.Value})
	case api.ActTell:
		e.Name = a.head.Label
		m.put(a.tape, api.Letter{Label: e.Name})
	case api.ActTake:
		e.Name, e.Value = a.head.Var, m.take(a.tape).Value
		m.set(e.Name, e.Value)
	case api.ActOffer:
		e.Name = m.take(a.tape).Label
		chosen, _ := raw.Offered(a.head, e.Name)
		m.enter(a.blocks[chosen])
	case api.ActSet:
		e.Name = a.head.Var
		m.set(e.Name, e.Value)
	case api.ActIf:
		e.Value = meaning.Truth(e.Value != 0)
		m.enter(a.blocks[1-e.Value])
	case api.ActCall:
		e = api.Event{}
		m.enter(r.body(a.callee, a.head.Args))
	}
	m.event = e
	r.add(m)
}

// enter puts a list ahead of what is still to be done.
func (m *moment) enter(l *list) {
	m.rest = m.role.rest(l, 0, m.rest)
}

// put puts a letter on a tape.
func (m *moment) put(t *tape, l api.Letter) {
	m.role.network.put(t, l)
	m.mail = m.role.network.Set(m.mail, t.number, len(t.letters))
}

// take takes the next letter from a tape.
func (m *moment) take(t *tape) api.Letter {
	n := m.moved(t)
	m.mail = m.role.network.Set(m.mail, t.number, n+1)
	return t.letters[n]
}

// moved is how many letters have been put on a tape, or taken from it.
func (m *moment) moved(t *tape) int {
	return m.role.network.Get(m.mail, t.number)
}

// set gives a variable a value.
func (m *moment) set(name string, value int) {
	places := m.role.places
	if _, known := places[name]; !known {
		places[name] = len(places)
	}
	m.vars = m.role.network.Set(m.vars, places[name], value)
}

// get is the value of a variable.
func (m *moment) get(name string) int {
	at, known := m.role.places[name]
	if !known {
		return 0
	}
	return m.role.network.Get(m.vars, at)
}

// slots are the variables that are not 0, rising.
func (m *moment) slots() []api.Slot {
	var out []api.Slot
	for _, name := range slices.Sorted(maps.Keys(m.role.places)) {
		if value := m.get(name); value != 0 {
			out = append(out, api.Slot{Name: name, Value: value})
		}
	}
	return out
}
