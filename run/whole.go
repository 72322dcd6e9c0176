package run

import (
	"maps"
	"slices"

	"promptbook/api"
)

func isFuel(n int) bool {
	return 0 <= n && n <= api.MaxFuel
}

// checkBunch checks how many runs there are to be, and their fuel.
func checkBunch(all [][]api.Store, fuel int) api.Errno {
	if len(all) > api.MaxBunch {
		return api.ErrLarge
	}
	if !isFuel(fuel) {
		return api.ErrArg
	}
	return api.OK
}

// begin is the run of a play before its first step.
func begin(p api.Play, s []api.Store) (*machine, api.Errno) {
	g, err := open(p)
	if err != api.OK {
		return nil, err
	}
	return g.begin(s)
}

// complete is the run of a play after its end.
func complete(p api.Play, s []api.Store, fuel int) (*machine, api.Errno) {
	g, err := open(p)
	if err != api.OK {
		return nil, err
	}
	return g.complete(s, fuel)
}

// complete is the run with some stores after its end.
func (g *stage) complete(s []api.Store, fuel int) (*machine, api.Errno) {
	m, err := g.begin(s)
	if err != api.OK {
		return nil, err
	}
	if !isFuel(fuel) {
		return nil, api.ErrArg
	}
	if !m.perform(fuel) {
		return nil, api.ErrFull
	}
	return m, api.OK
}

// alike says whether two plays do the same with some stores, as far as each role sees it.
func alike(one, other *stage, s []api.Store, fuel int) (bool, api.Errno) {
	m, err := one.complete(s, fuel)
	if err != api.OK {
		return false, err
	}
	n, err := other.complete(s, fuel)
	if err != api.OK {
		return false, err
	}
	sameEnd := maps.Equal(m.vars, n.vars)
	return sameEnd && maps.EqualFunc(byRole(m.events()), byRole(n.events()), slices.Equal[[]api.Event]), api.OK
}
