package weave

import (
	"slices"

	"promptbook/api"
	"promptbook/run"
)

// history is a list of events with what leads to what. Events are told by their indices; what leads to an event stands before it.
type history struct {
	events  []api.Event
	letters []int   // for each event the letter that it takes, or none
	causes  [][]int // for each event what leads to it at once, rising: this letter, and the event before it of the same role
	effects [][]int // for each event to what it leads at once, rising
}

// recorded is the history of events.
func recorded(l []api.Event) (*history, api.Errno) {
	if err := run.CheckEvents(l); err != api.OK {
		return nil, err
	}
	letters, err := taken(l)
	if err != api.OK {
		return nil, err
	}
	h := &history{l, letters, make([][]int, len(l)), make([][]int, len(l))}
	last := map[string]int{}
	for e, event := range l {
		if earlier, is := last[event.Role]; is {
			h.causes[e] = append(h.causes[e], earlier)
		}
		if letters[e] != none {
			h.causes[e] = append(h.causes[e], letters[e])
		}
		slices.Sort(h.causes[e])
		for _, c := range h.causes[e] {
			h.effects[c] = append(h.effects[c], e)
		}
		last[event.Role] = e
	}
	return h, api.OK
}

// recordedUpTo is the history of events of which there are not too many.
func recordedUpTo(most int, l []api.Event) (*history, api.Errno) {
	h, err := recorded(l)
	if err == api.OK && len(l) > most {
		return nil, api.ErrLarge
	}
	return h, err
}

func (h *history) has(e int) bool {
	return 0 <= e && e < len(h.events)
}

// partners are for each event the letter that it takes, or what takes it as a letter, or none.
func (h *history) partners() []int {
	out := slices.Clone(h.letters)
	for e, letter := range h.letters {
		if letter != none {
			out[letter] = e
		}
	}
	return out
}

// longest are for each event how long the longest way to it is, if a step from an event to one to which it leads at once is so long.
func (h *history) longest(long func(from, to int) int) []int {
	out := make([]int, len(h.events))
	for e, causes := range h.causes {
		for _, c := range causes {
			out[e] = max(out[e], out[c]+long(c, e))
		}
	}
	return out
}

// longestAfter are for each event how long the longest way from it is.
func (h *history) longestAfter(long func(from, to int) int) []int {
	out := make([]int, len(h.events))
	for e, effects := range slices.Backward(h.effects) {
		for _, f := range effects {
			out[e] = max(out[e], out[f]+long(e, f))
		}
	}
	return out
}

// united are for each event the union of the sets that all events have which happen before it.
func (h *history) united(own func(e int) set) []set {
	out := make([]set, len(h.events))
	for e, causes := range h.causes {
		for _, c := range causes {
			out[e] |= out[c] | own(c)
		}
	}
	return out
}
