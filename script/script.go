// Package script has the texts of choreographies.
package script

import (
	"slices"
	"strings"

	"promptbook/api"
)

// CheckExpr validates an expression.
func CheckExpr(e api.Expr) api.Errno {
	return checkExpr(e, 1)
}

// CheckPlay validates a play.
func CheckPlay(p api.Play) api.Errno {
	if len(p.Procs) > api.MaxProcs {
		return api.ErrLarge
	}
	for i, q := range p.Procs {
		if err := checkProc(q, p.Procs[:i]); err != api.OK {
			return err
		}
	}
	if err := checkSteps(p.Main, 1); err != api.OK {
		return err
	}
	if steps, _ := measure(p); steps > api.MaxSteps {
		return api.ErrLarge
	}
	return api.OK
}

// Roles are those of a play.
func Roles(p api.Play) ([]string, api.Errno) {
	if err := CheckPlay(p); err != api.OK {
		return nil, err
	}
	var roles []string
	eachStep(p.Main, 1, func(s api.Step, _ int) {
		for _, role := range slices.Concat([]string{s.Role, s.To}, s.Args) {
			if role != "" {
				roles = append(roles, role)
			}
		}
	})
	slices.Sort(roles)
	return slices.Compact(roles), api.OK
}

// Count is how many steps there are, and how deep they are.
func Count(p api.Play) (int, int, api.Errno) {
	if err := CheckPlay(p); err != api.OK {
		return 0, 0, err
	}
	steps, depth := measure(p)
	return steps, depth, api.OK
}

// Without is the play without a step.
func Without(p api.Play, n int) (api.Play, api.Errno) {
	if err := checkNumber(p, n); err != api.OK {
		return api.Play{}, err
	}
	next := 0
	keep := func() bool {
		next++
		return next-1 != n
	}
	out := api.Play{Main: copySteps(p.Main, keep)}
	for _, q := range p.Procs {
		q.Params = slices.Clone(q.Params)
		q.Body = copySteps(q.Body, keep)
		out.Procs = append(out.Procs, q)
	}
	return out, api.OK
}

// ReadExpr reads an expression.
func ReadExpr(text string) (api.Expr, int, api.Errno) {
	if len(text) > api.MaxText {
		return api.Expr{}, 0, api.ErrLarge
	}
	r := newReader(text)
	var e api.Expr
	if !r.expr(&e) || !r.ended() {
		return api.Expr{}, r.line, api.ErrSyntax
	}
	if err := CheckExpr(e); err != api.OK {
		return api.Expr{}, 0, err
	}
	return e, 0, api.OK
}

// Read reads a play.
func Read(text string) (api.Play, int, api.Errno) {
	if len(text) > api.MaxText {
		return api.Play{}, 0, api.ErrLarge
	}
	r := newReader(text)
	var p api.Play
	if !r.play(&p) || !r.ended() {
		return api.Play{}, r.line, api.ErrSyntax
	}
	if err := CheckPlay(p); err != api.OK {
		return api.Play{}, 0, err
	}
	return p, 0, api.OK
}

// ExprText writes an expression.
func ExprText(e api.Expr) (string, api.Errno) {
	if err := CheckExpr(e); err != api.OK {
		return "", err
	}
	var w printer
	w.expr(e)
	return w.result()
}

// Text writes a play.
func Text(p api.Play) (string, api.Errno) {
	if err := CheckPlay(p); err != api.OK {
		return "", err
	}
	var w printer
	w.play(p)
	return w.result()
}

// Line is the line in which a step begins.
func Line(p api.Play, n int) (int, api.Errno) {
	if err := checkNumber(p, n); err != api.OK {
		return 0, err
	}
	var w printer
	w.play(p)
	text, err := w.result()
	if err != api.OK {
		return 0, err
	}
	return strings.Count(text[:w.begins[n]], "\n"), api.OK
}
