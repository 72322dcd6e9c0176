package run

import (
	"cmp"
	"maps"
	"slices"
	"strings"

	"promptbook/api"
	"promptbook/raw"
)

// checkStore checks a store by itself.
func checkStore(s api.Store) api.Errno {
	if !raw.IsName(s.Role) {
		return api.ErrName
	}
	if len(s.Vars) == 0 {
		return api.ErrForm
	}
	return raw.CheckNamed(s.Vars, raw.SlotName, func(v api.Slot) bool {
		return raw.IsValue(v.Value) && v.Value != 0
	})
}

// checkVariable checks stores, and a variable for which something asks.
func checkVariable(s []api.Store, role, name string) api.Errno {
	if err := CheckStores(s); err != api.OK {
		return err
	}
	if !raw.IsName(role) || !raw.IsName(name) {
		return api.ErrName
	}
	return api.OK
}

// variables are those that are not 0, with their values.
type variables map[api.Var]int

func variablesOf(s []api.Store) variables {
	v := variables{}
	for _, one := range s {
		for _, slot := range one.Vars {
			v.set(api.Var{Role: one.Role, Name: slot.Name}, slot.Value)
		}
	}
	return v
}

func (v variables) set(at api.Var, value int) {
	if value == 0 {
		delete(v, at)
	} else {
		v[at] = value
	}
}

func (v variables) stores() []api.Store {
	var out []api.Store
	for _, at := range inOrder(v) {
		out = withSlot(out, at.Role, api.Slot{Name: at.Name, Value: v[at]})
	}
	return out
}

// inOrder are the variables of a map, by Role, then Name.
func inOrder[T any](of map[api.Var]T) []api.Var {
	return slices.SortedFunc(maps.Keys(of), func(a, b api.Var) int {
		return cmp.Or(strings.Compare(a.Role, b.Role), strings.Compare(a.Name, b.Name))
	})
}

// withSlot puts a variable behind all others: into the last store, if this is that of its role.
func withSlot(s []api.Store, role string, v api.Slot) []api.Store {
	if len(s) == 0 || s[len(s)-1].Role != role {
		s = append(s, api.Store{Role: role})
	}
	last := &s[len(s)-1]
	last.Vars = append(last.Vars, v)
	return s
}
