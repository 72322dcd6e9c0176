package value

import (
	"promptbook/api"
	"promptbook/fresh"
)

// withArgs is an expression with what change makes of its Args, in new memory.
func withArgs(e api.Expr, change func(api.Expr) api.Expr) api.Expr {
	out := api.Expr{Op: e.Op, N: e.N, Name: e.Name}
	for _, a := range e.Args {
		out.Args = append(out.Args, change(a))
	}
	return out
}

// put replaces a variable by an expression.
func put(e api.Expr, name string, by api.Expr) api.Expr {
	if e.Op == api.OpVar && e.Name == name {
		return fresh.Expr(by)
	}
	return withArgs(e, func(a api.Expr) api.Expr { return put(a, name, by) })
}

// depth is how deep an expression is if a variable has a depth of its own.
func depth(e api.Expr, name string, own int) int {
	if e.Op == api.OpVar && e.Name == name {
		return own
	}
	deepest := 0
	for _, a := range e.Args {
		deepest = max(deepest, depth(a, name, own))
	}
	return deepest + 1
}

func size(e api.Expr) int {
	n := 1
	for _, a := range e.Args {
		n += size(a)
	}
	return n
}
