package raw

import (
	"slices"

	"promptbook/api"
)

// CheckPairs checks by what some of the roles are to be replaced.
func CheckPairs(pairs []api.Pair, roles []string) api.Errno {
	if len(pairs) > api.MaxRoles {
		return api.ErrLarge
	}
	for i, a := range pairs {
		if !slices.Contains(roles, a.Name) || !IsName(a.Value) {
			return api.ErrName
		}
		if slices.ContainsFunc(pairs[:i], func(b api.Pair) bool { return b.Name == a.Name || b.Value == a.Value }) {
			return api.ErrTwice
		}
	}
	for _, a := range pairs {
		if slices.Contains(roles, a.Value) && !slices.ContainsFunc(pairs, func(b api.Pair) bool { return b.Name == a.Value }) {
			return api.ErrConflict
		}
	}
	return api.OK
}

// Swap replaces a role as the pairs say, if one has its name.
func Swap(pairs []api.Pair) func(role *string) {
	return func(role *string) {
		for _, a := range pairs {
			if a.Name == *role {
				*role = a.Value
				return
			}
		}
	}
}
