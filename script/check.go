package script

import (
	"slices"

	"promptbook/api"
	"promptbook/raw"
)

func checkExpr(e api.Expr, depth int) api.Errno {
	switch {
	case depth > api.MaxDepth:
		return api.ErrLarge
	case e.Op < api.OpNumber || e.Op > api.OpWhen:
		return api.ErrKind
	case len(e.Args) != raw.Operands(e.Op),
		e.Op != api.OpNumber && e.N != 0,
		e.Op != api.OpVar && e.Name != "":
		return api.ErrForm
	case e.N < 0 || e.N > api.MaxValue:
		return api.ErrArg
	case e.Op == api.OpVar && !raw.IsName(e.Name):
		return api.ErrName
	}
	for _, a := range e.Args {
		if err := checkExpr(a, depth+1); err != api.OK {
			return err
		}
	}
	return api.OK
}

func checkProc(q api.Proc, earlier []api.Proc) api.Errno {
	switch {
	case !raw.IsName(q.Key):
		return api.ErrName
	case slices.ContainsFunc(earlier, func(r api.Proc) bool { return r.Key == q.Key }):
		return api.ErrTwice
	case len(q.Params) == 0:
		return api.ErrNone
	case len(q.Params) > api.MaxRoles:
		return api.ErrLarge
	}
	for i, role := range q.Params {
		if !raw.IsName(role) {
			return api.ErrName
		}
		if slices.Contains(q.Params[:i], role) {
			return api.ErrTwice
		}
	}
	return checkSteps(q.Body, 1)
}

func checkSteps(l []api.Step, depth int) api.Errno {
	for _, s := range l {
		if err := checkStep(s, depth); err != api.OK {
			return err
		}
		if err := checkSteps(s.Then, depth+1); err != api.OK {
			return err
		}
		if err := checkSteps(s.Else, depth+1); err != api.OK {
			return err
		}
	}
	return api.OK
}

// checkStep checks a step without its Then and Else.
func checkStep(s api.Step, depth int) api.Errno {
	if depth > api.MaxDepth {
		return api.ErrLarge
	}
	if s.Kind < api.StepSend || s.Kind > api.StepCall {
		return api.ErrKind
	}
	f := fieldsOf(s.Kind)
	if hasOther(s, f) {
		return api.ErrForm
	}
	if !areNamed(s, f) {
		return api.ErrName
	}
	if f.expr {
		return CheckExpr(s.Expr)
	}
	if f.call {
		return checkArgs(s.Args)
	}
	return api.OK
}

func checkArgs(args []string) api.Errno {
	if len(args) == 0 {
		return api.ErrNone
	}
	if len(args) > api.MaxRoles {
		return api.ErrLarge
	}
	for _, role := range args {
		if !raw.IsName(role) {
			return api.ErrName
		}
	}
	return api.OK
}

// fields are those that a kind of steps uses; branches are Then and Else, call is Proc and Args.
type fields struct {
	role, to, variable, label, expr, branches, call bool
}

func fieldsOf(kind int) fields {
	switch kind {
	case api.StepSend:
		return fields{role: true, to: true, variable: true, expr: true}
	case api.StepTell:
		return fields{role: true, to: true, label: true}
	case api.StepSet:
		return fields{role: true, variable: true, expr: true}
	case api.StepIf:
		return fields{role: true, expr: true, branches: true}
	}
	return fields{call: true}
}

// hasOther says whether a field that is not used is not zero.
func hasOther(s api.Step, f fields) bool {
	return !f.role && s.Role != "" ||
		!f.to && s.To != "" ||
		!f.variable && s.Var != "" ||
		!f.label && s.Label != "" ||
		!f.expr && !isZero(s.Expr) ||
		!f.branches && len(s.Then)+len(s.Else) > 0 ||
		!f.call && (s.Proc != "" || len(s.Args) > 0)
}

func isZero(e api.Expr) bool {
	return e.Op == 0 && e.N == 0 && e.Name == "" && len(e.Args) == 0
}

// areNamed says whether all names that are used are names.
func areNamed(s api.Step, f fields) bool {
	return (!f.role || raw.IsName(s.Role)) &&
		(!f.to || raw.IsName(s.To)) &&
		(!f.variable || raw.IsName(s.Var)) &&
		(!f.label || raw.IsName(s.Label)) &&
		(!f.call || raw.IsName(s.Proc))
}
