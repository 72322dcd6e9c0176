package check

import (
	"slices"

	"promptbook/api"
)

// rolesOf are the roles of a step; the list can be that of the step.
func rolesOf(s api.Step) []string {
	switch {
	case s.Kind == api.StepCall:
		return s.Args
	case s.To == "":
		return []string{s.Role}
	}
	return []string{s.Role, s.To}
}

// checkNode checks a step without those within it.
func (t *tree) checkNode(n *node) api.Errno {
	switch {
	case n.proc != noProc && !areAmong(rolesOf(n.step), t.procs[n.proc].Params):
		return api.ErrName
	case n.step.Kind == api.StepCall:
		return t.checkCall(n)
	case n.step.Role == n.step.To:
		return api.ErrTwice
	}
	return api.OK
}

func areAmong(roles, params []string) bool {
	for _, role := range roles {
		if !slices.Contains(params, role) {
			return false
		}
	}
	return true
}

func (t *tree) checkCall(n *node) api.Errno {
	args := n.step.Args
	if n.callee == noProc {
		return api.ErrNone
	}
	if len(args) != len(t.procs[n.callee].Params) {
		return api.ErrForm
	}
	for i, role := range args {
		if slices.Contains(args[:i], role) {
			return api.ErrTwice
		}
	}
	return api.OK
}
