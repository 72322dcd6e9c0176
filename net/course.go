package net

import (
	"slices"

	"promptbook/api"
)

// course is a network that makes moves in one order, with any room.
type course struct {
	*network
	now    state
	moves  []string
	events []api.Event
}

func newCourse(p []api.Part, s []api.Store) *course {
	n := newNetwork(p, s)
	return &course{network: n, now: n.beginning()}
}

// retraced is a network that has made moves.
func retraced(p []api.Part, s []api.Store, moves []string) (*course, api.Errno) {
	if err := checkNet(p, s); err != api.OK {
		return nil, err
	}
	if len(moves) > api.MaxMoves {
		return nil, api.ErrLarge
	}
	c := newCourse(p, s)
	return c, c.retrace(moves)
}

// played is a network that has made moves by choices until no role was able.
func played(p []api.Part, s []api.Store, choices []int, most int) (*course, api.Errno) {
	if err := checkNet(p, s); err != api.OK {
		return nil, err
	}
	if err := checkChoices(choices); err != api.OK {
		return nil, err
	}
	if !isMoves(most) {
		return nil, api.ErrArg
	}
	c := newCourse(p, s)
	if !c.byChoices(choices, most) {
		return nil, api.ErrFull
	}
	return c, api.OK
}

// retrace makes the moves of roles in order. It fails at a role that there is not, or that is not able to move.
func (c *course) retrace(moves []string) api.Errno {
	for _, name := range moves {
		who := c.indexOf(name)
		if who == nobody {
			return api.ErrNone
		}
		if !c.able(c.now, who, 0) {
			return api.ErrRule
		}
		c.move(who)
	}
	return api.OK
}

func (c *course) move(who int) {
	c.now = c.after(c.now, who)
	c.moves = append(c.moves, c.roles[who].Role)
	if e := c.moment(c.now, who).event; e.Kind != 0 {
		c.events = append(c.events, e)
	}
}

// play makes moves until no role is able, and says whether most moves were enough. The one who moves is chosen among those who are able.
func (c *course) play(most int, choose func(able []int) int) bool {
	for {
		able := c.ables(c.now, 0)
		if len(able) == 0 {
			return true
		}
		if len(c.moves) == most {
			return false
		}
		c.move(choose(able))
	}
}

// byChoices plays by a list of choices, again and again.
func (c *course) byChoices(choices []int, most int) bool {
	return c.play(most, func(able []int) int {
		chosen := choices[len(c.moves)%len(choices)]
		return able[chosen%len(able)]
	})
}

// byTurns plays so that the next role after the one that moved last moves.
func (c *course) byTurns(most int) bool {
	last := nobody
	return c.play(most, func(able []int) int {
		i, _ := slices.BinarySearch(able, last+1)
		last = able[i%len(able)]
		return last
	})
}
