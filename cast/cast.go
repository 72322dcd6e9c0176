// Package cast knows which roles stand for the Params of a procedure.
package cast

import "slices"

// Cast tells which roles stand for the Params of a procedure. It is empty in Main, where all roles are themselves.
type Cast struct{ params, roles []string }

// Role is the role that a name stands for.
func (c Cast) Role(name string) string {
	if i := slices.Index(c.params, name); i >= 0 {
		return c.roles[i]
	}
	return name
}

// Called is the cast of a procedure with these Params that is called here with these Args. It keeps the Params.
func (c Cast) Called(params, args []string) Cast {
	called := Cast{params: params}
	for _, arg := range args {
		called.roles = append(called.roles, c.Role(arg))
	}
	return called
}
