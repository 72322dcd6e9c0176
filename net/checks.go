package net

import (
	"slices"

	"promptbook/api"
	"promptbook/part"
	"promptbook/run"
)

func checkNet(p []api.Part, s []api.Store) api.Errno {
	if err := checkParts(p); err != api.OK {
		return err
	}
	if err := run.CheckStores(s); err != api.OK {
		return err
	}
	for _, one := range s {
		if !slices.ContainsFunc(p, func(q api.Part) bool { return q.Role == one.Role }) {
			return api.ErrNone
		}
	}
	return api.OK
}

func checkParts(p []api.Part) api.Errno {
	if len(p) == 0 {
		return api.ErrNone
	}
	if len(p) > api.MaxRoles {
		return api.ErrLarge
	}
	for i, one := range p {
		if err := part.CheckPart(one); err != api.OK {
			return err
		}
		if i > 0 && one.Role <= p[i-1].Role {
			return api.ErrOrder
		}
	}
	return api.OK
}

// maxChoice is the greatest number among choices.
const maxChoice = 1_000

func checkChoices(choices []int) api.Errno {
	if len(choices) == 0 {
		return api.ErrNone
	}
	if slices.ContainsFunc(choices, func(n int) bool { return n < 0 || n > maxChoice }) {
		return api.ErrArg
	}
	return api.OK
}

// isMoves says whether a play can be limited to so many moves.
func isMoves(most int) bool {
	return 1 <= most && most <= api.MaxMoves
}

// isStates says whether a survey can be limited to so many states.
func isStates(most int) bool {
	return 1 <= most && most <= api.MaxStates
}

func isRoom(room int) bool {
	return 0 <= room && room <= api.MaxRoom
}
