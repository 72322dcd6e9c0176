package value

import (
	"slices"

	"promptbook/api"
	"promptbook/meaning"
	"promptbook/raw"
)

// rule gives what it makes of an expression whose Args are simple, and whether it applies at all.
type rule func(e api.Expr) (api.Expr, bool)

// simple has new memory throughout.
func simple(e api.Expr) api.Expr {
	e = withArgs(e, simple)
	for {
		next, applies := firstRule(e)
		if !applies {
			return e
		}
		e = next
	}
}

// firstRule applies the first one of the rules that does.
func firstRule(e api.Expr) (api.Expr, bool) {
	for _, r := range [...]rule{allNumbers, neutral, sameArgs, beyondValues, decided, negation} {
		if next, applies := r(e); applies {
			return next, true
		}
	}
	return api.Expr{}, false
}

func number(n int) api.Expr {
	return api.Expr{Op: api.OpNumber, N: n}
}

func isNumber(e api.Expr, n int) bool {
	return e.Op == api.OpNumber && e.N == n
}

// allNumbers evaluates what has no variables.
func allNumbers(e api.Expr) (api.Expr, bool) {
	other := func(a api.Expr) bool { return a.Op != api.OpNumber }
	if len(e.Args) == 0 || slices.ContainsFunc(e.Args, other) {
		return api.Expr{}, false
	}
	return number(meaning.Of(e)(slotValues(nil))), true
}

// neutral leaves out what does not count in a sum, a difference or a product, and what does not count beside 0.
func neutral(e api.Expr) (api.Expr, bool) {
	if len(e.Args) != 2 {
		return api.Expr{}, false
	}
	x, y := e.Args[0], e.Args[1]
	switch {
	case e.Op == api.OpAdd && isNumber(y, 0),
		e.Op == api.OpSub && isNumber(y, 0),
		e.Op == api.OpMul && isNumber(y, 1):
		return x, true
	case e.Op == api.OpAdd && isNumber(x, 0),
		e.Op == api.OpMul && isNumber(x, 1):
		return y, true
	case e.Op == api.OpMul && (isNumber(x, 0) || isNumber(y, 0)):
		return number(0), true
	}
	return api.Expr{}, false
}

// sameArgs knows what becomes of something and itself.
func sameArgs(e api.Expr) (api.Expr, bool) {
	switch e.Op {
	case api.OpSub, api.OpLess, api.OpSame:
		return number(meaning.Truth(e.Op == api.OpSame)), raw.Equal(e.Args[0], e.Args[1])
	}
	return api.Expr{}, false
}

// beyondValues knows that nothing is less than 0, or greater than the greatest value.
func beyondValues(e api.Expr) (api.Expr, bool) {
	if e.Op != api.OpLess {
		return api.Expr{}, false
	}
	return number(0), isNumber(e.Args[1], 0) || isNumber(e.Args[0], api.MaxValue)
}

// decided takes the Arg of an OpWhen that it always comes to.
func decided(e api.Expr) (api.Expr, bool) {
	switch {
	case e.Op != api.OpWhen:
		return api.Expr{}, false
	case isNumber(e.Args[0], 0):
		return e.Args[2], true
	}
	return e.Args[1], e.Args[0].Op == api.OpNumber || raw.Equal(e.Args[1], e.Args[2])
}

// negation writes comparisons with 0 as OpNot, and three OpNots as one.
func negation(e api.Expr) (api.Expr, bool) {
	switch {
	case e.Op == api.OpSame && isNumber(e.Args[1], 0):
		return api.Expr{Op: api.OpNot, Args: []api.Expr{e.Args[0]}}, true
	case e.Op == api.OpSame && isNumber(e.Args[0], 0):
		return api.Expr{Op: api.OpNot, Args: []api.Expr{e.Args[1]}}, true
	case e.Op == api.OpNot && e.Args[0].Op == api.OpNot && e.Args[0].Args[0].Op == api.OpNot:
		return e.Args[0].Args[0], true
	}
	return api.Expr{}, false
}
