package part

import (
	"maps"
	"slices"

	"promptbook/api"
	"promptbook/fresh"
	"promptbook/raw"
)

// rolesOf are the role of a part, and those in its Main.
func rolesOf(p api.Part) []string {
	roles := map[string]bool{p.Role: true}
	each(p.Main, func(a *api.Act) {
		if a.With != "" {
			roles[a.With] = true
		}
		for _, arg := range a.Args {
			roles[arg] = true
		}
	})
	return slices.Sorted(maps.Keys(roles))
}

// renamed replaces roles. In the Locals there are none: Params are names of their own.
func renamed(p api.Part, pairs []api.Pair) api.Part {
	q := fresh.Part(p)
	swap := raw.Swap(pairs)
	swap(&q.Role)
	each(q.Main, func(a *api.Act) {
		swap(&a.With)
		for i := range a.Args {
			swap(&a.Args[i])
		}
	})
	return q
}
