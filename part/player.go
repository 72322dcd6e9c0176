package part

import (
	"maps"
	"slices"

	"promptbook/api"
	"promptbook/cast"
	"promptbook/meaning"
	"promptbook/numbered"
	"promptbook/raw"
)

// checkHeard checks what a role hears.
func checkHeard(heard []api.Heard, role string) api.Errno {
	if len(heard) > api.MaxHeard {
		return api.ErrLarge
	}
	for _, h := range heard {
		switch {
		case !raw.IsName(h.With):
			return api.ErrName
		case h.With == role:
			return api.ErrTwice
		case h.Label != "" && !raw.IsName(h.Label):
			return api.ErrName
		case h.Label != "" && h.Value != 0:
			return api.ErrForm
		case !raw.IsValue(h.Value):
			return api.ErrArg
		}
	}
	return api.OK
}

// heardBy are the values and labels for a role, in order.
func heardBy(l []api.Event, role string) []api.Heard {
	var out []api.Heard
	for _, e := range l {
		switch {
		case e.With != role:
		case e.Kind == api.ActSend:
			out = append(out, api.Heard{With: e.Role, Value: e.Value})
		case e.Kind == api.ActTell:
			out = append(out, api.Heard{With: e.Role, Label: e.Name})
		}
	}
	return out
}

// frame is a list of acts that are done.
type frame struct {
	rest []*numbered.Cue
	cast cast.Cast
}

// player does the acts of a part.
type player struct {
	*numbered.Part
	meanings []meaning.Meaning // of the Exprs, by the numbers of the acts
	vars     map[string]int
	heard    map[string][]api.Heard // what was not taken yet, by With
	frames   []frame                // the innermost one last
	drive    api.Drive              // its State is 0 as long as it goes on
}

func newPlayer(p api.Part, v []api.Slot, heard []api.Heard) *player {
	m := &player{Part: numbered.NewPart(p), vars: map[string]int{}, heard: map[string][]api.Heard{}}
	for _, c := range m.Cues {
		m.meanings = append(m.meanings, meaningOf(c.Act))
	}
	for _, s := range v {
		m.vars[s.Name] = s.Value
	}
	for _, h := range heard {
		m.heard[h.With] = append(m.heard[h.With], h)
	}
	m.frames = []frame{{rest: m.Main}}
	return m
}

// meaningOf is that of an act's Expr, nil if it has none.
func meaningOf(a api.Act) meaning.Meaning {
	if f, _ := formOf(a.Kind); !f.has(fieldExpr) {
		return nil
	}
	return meaning.Of(a.Expr)
}

// perform does acts until it stops, and says whether the fuel lasts so long.
func (m *player) perform(fuel int) bool {
	for ; ; fuel-- {
		c := m.next()
		if c == nil {
			m.drive.State = api.DriveEnds
			return true
		}
		if m.stops(c) {
			return true
		}
		if fuel == 0 {
			return false
		}
		m.do(c)
	}
}

// next is the next act, nil if there is none. It takes off the lists that have been done, so that calls at the end of a Body need no room.
func (m *player) next() *numbered.Cue {
	for len(m.frames) > 0 {
		f := m.frames[len(m.frames)-1]
		if len(f.rest) > 0 {
			return f.rest[0]
		}
		m.frames = m.frames[:len(m.frames)-1]
	}
	return nil
}

// stops says whether an act cannot be done because of what is heard, and tells so in the drive.
func (m *player) stops(c *numbered.Cue) bool {
	if c.Act.Kind != api.ActTake && c.Act.Kind != api.ActOffer {
		return false
	}
	from := m.role(c.Act.With)
	l := m.heard[from]
	switch {
	case len(l) == 0:
		m.drive.State = api.DriveWaits
	case !fits(l[0], c.Act):
		m.drive.State = api.DriveRefuses
	default:
		return false
	}
	m.drive.With = from
	return true
}

// fits says whether an act can take something.
func fits(h api.Heard, a api.Act) bool {
	if a.Kind == api.ActTake {
		return h.Label == ""
	}
	_, ok := raw.Offered(a, h.Label)
	return ok
}

// role is the role for which a name stands in the acts that are done.
func (m *player) role(name string) string {
	return m.frames[len(m.frames)-1].cast.Role(name)
}

// do does the next act.
func (m *player) do(c *numbered.Cue) {
	f := &m.frames[len(m.frames)-1]
	f.rest = f.rest[1:]
	a := c.Act
	e := api.Event{Role: m.Role, Kind: a.Kind, With: m.role(a.With)}
	if v := m.meanings[c.Number]; v != nil {
		e.Value = v(func(name string) int { return m.vars[name] })
	}
	switch a.Kind {
	case api.ActTake:
		e.Name, e.Value = a.Var, m.take(e.With).Value
		m.vars[a.Var] = e.Value
	case api.ActTell:
		e.Name = a.Label
	case api.ActOffer:
		e.Name = m.take(e.With).Label
		chosen, _ := raw.Offered(a, e.Name)
		m.enter(c.Blocks[chosen])
	case api.ActSet:
		e.Name = a.Var
		m.vars[a.Var] = e.Value
	case api.ActIf:
		e.Value = meaning.Truth(e.Value != 0)
		m.enter(c.Blocks[1-e.Value])
	case api.ActCall:
		called := f.cast.Called(m.Locals[c.Callee].Params, a.Args)
		m.frames = append(m.frames, frame{m.Bodies[c.Callee], called})
		return
	}
	m.drive.Events = append(m.drive.Events, e)
}

// take takes what is heard first.
func (m *player) take(from string) api.Heard {
	l := m.heard[from]
	m.heard[from] = l[1:]
	m.drive.Taken++
	return l[0]
}

// enter begins a list within one that is done.
func (m *player) enter(l []*numbered.Cue) {
	m.frames = append(m.frames, frame{l, m.frames[len(m.frames)-1].cast})
}

// slots are the variables that are not 0, rising.
func (m *player) slots() []api.Slot {
	var out []api.Slot
	for _, name := range slices.Sorted(maps.Keys(m.vars)) {
		if n := m.vars[name]; n != 0 {
			out = append(out, api.Slot{Name: name, Value: n})
		}
	}
	return out
}
