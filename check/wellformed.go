package check

import (
	"slices"

	"promptbook/api"
	"promptbook/numbered"
)

// checkNode checks a step without those within it.
func (t *tree) checkNode(n *numbered.Node) api.Errno {
	switch {
	case n.Proc != numbered.NoProc && !areAmong(n.Roles(), t.Procs[n.Proc].Params):
		return api.ErrName
	case n.Step.Kind == api.StepCall:
		return t.checkCall(n)
	case n.Step.Role == n.Step.To:
		return api.ErrTwice
	}
	return api.OK
}

func areAmong(roles, params []string) bool {
	for _, role := range roles {
		if !slices.Contains(params, role) {
			return false
		}
	}
	return true
}

func (t *tree) checkCall(n *numbered.Node) api.Errno {
	args := n.Step.Args
	if n.Callee == numbered.NoProc {
		return api.ErrNone
	}
	if len(args) != len(t.Procs[n.Callee].Params) {
		return api.ErrForm
	}
	for i, role := range args {
		if slices.Contains(args[:i], role) {
			return api.ErrTwice
		}
	}
	return api.OK
}
