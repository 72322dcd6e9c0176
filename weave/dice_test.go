package weave_test

import (
	"slices"

	"promptbook/api"
)

// dice gives always the same numbers, so that a failure can be seen again.
type dice struct{ state uint64 }

func (d *dice) roll(n int) int {
	d.state = d.state*6364136223846793005 + 1442695040888963407
	return int(d.state >> 33 % uint64(n))
}

func (d *dice) pick(l ...string) string {
	return l[d.roll(len(l))]
}

// events are n ones of some of the roles, which are more or less calm, and quick to take letters and to answer them.
func (d *dice) events(n int) []api.Event {
	roles := []string{"d", "b", "a", "c", "e", "g", "f", "h"}[:1+d.roll(5)+d.roll(2)*d.roll(4)]
	calm, eager, prompt := d.roll(4), 1+d.roll(4), d.roll(5)
	waiting := map[[2]string][]api.Event{}
	var l []api.Event
	for len(l) < n {
		own, other := d.pick(roles...), d.pick(roles...)
		if d.roll(4) < prompt && len(l) > 0 {
			switch last := l[len(l)-1]; {
			case isLetter(last):
				own, other = last.With, last.Role
			case isTaker(last):
				own = last.Role
			}
		}
		back := [2]string{other, own}
		letters := waiting[back]
		switch {
		case len(letters) > 0 && d.roll(4) < eager:
			l = append(l, d.answer(letters[0]))
			waiting[back] = letters[1:]
		case own == other && len(roles) > 1:
		case own == other || d.roll(6) < calm:
			l = append(l, d.deed(own))
		default:
			e := d.letter(own, other)
			l = append(l, e)
			waiting[[2]string{own, other}] = append(waiting[[2]string{own, other}], e)
		}
	}
	return l
}

// deed is what a role does for itself.
func (d *dice) deed(own string) api.Event {
	if d.roll(3) == 0 {
		return api.Event{Role: own, Kind: api.ActIf, Value: d.roll(2)}
	}
	return api.Event{Role: own, Kind: api.ActSet, Name: d.pick("x", "y"), Value: d.roll(3)}
}

func (d *dice) letter(from, to string) api.Event {
	if d.roll(3) == 0 {
		return api.Event{Role: from, Kind: api.ActTell, With: to, Name: d.pick("l", "m")}
	}
	return api.Event{Role: from, Kind: api.ActSend, With: to, Value: d.roll(3)}
}

// answer is the event that takes a letter.
func (d *dice) answer(letter api.Event) api.Event {
	e := api.Event{Role: letter.With, Kind: api.ActOffer, With: letter.Role, Name: letter.Name}
	if letter.Kind == api.ActSend {
		e.Kind, e.Name, e.Value = api.ActTake, d.pick("x", "y"), letter.Value
	}
	return e
}

// changed are events of which some are left out, changed, or stand elsewhere, so that they are mostly wrong.
func (d *dice) changed(l []api.Event) []api.Event {
	l = slices.Clone(l)
	for range 1 + d.roll(2) {
		if len(l) == 0 {
			return l
		}
		i, k := d.roll(len(l)), d.roll(len(l))
		switch d.roll(6) {
		case 0:
			l = slices.Delete(l, i, i+1)
		case 1:
			l[i], l[k] = l[k], l[i]
		case 2:
			l[i].Value = d.roll(3) - 1
		case 3:
			l[i].Name = d.pick("", "l", "m", "x", "if")
		case 4:
			l[i].Kind = d.roll(9)
		default:
			l[i] = l[k]
		}
	}
	return l
}

// costs are small, and often 0, so that much begins and ends at once.
func (d *dice) costs() api.Costs {
	n := func() int { return d.roll(3) }
	return costs(n(), n(), n(), n(), n(), n(), n())
}

// shuffled are the events in another order that keeps what happens before what.
func (d *dice) shuffled(l []api.Event) []api.Event {
	var out []api.Event
	told := teller(l)
	come := make([]bool, len(l))
	for len(out) < len(l) {
		if e := d.roll(len(l)); !come[e] && told.canCome(e, come) {
			out = append(out, l[e])
			come[e] = true
		}
	}
	return out
}
