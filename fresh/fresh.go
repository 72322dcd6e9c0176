// Package fresh copies expressions, steps and acts into new memory.
package fresh

import (
	"slices"

	"promptbook/api"
)

// Expr is a copy of an expression.
func Expr(e api.Expr) api.Expr {
	e.Args = slices.Clone(e.Args)
	for i, a := range e.Args {
		e.Args[i] = Expr(a)
	}
	return e
}

// Head is a copy of a step without its Then and Else.
func Head(s api.Step) api.Step {
	s.Expr = Expr(s.Expr)
	s.Args = slices.Clone(s.Args)
	s.Then, s.Else = nil, nil
	return s
}

// Step is a copy of a step with all that is within it.
func Step(s api.Step) api.Step {
	c := Head(s)
	c.Then = Steps(s.Then)
	c.Else = Steps(s.Else)
	return c
}

// Steps is a copy of a list of steps.
func Steps(l []api.Step) []api.Step {
	var out []api.Step
	for _, s := range l {
		out = append(out, Step(s))
	}
	return out
}
