package value

import (
	"promptbook/api"
	"promptbook/meaning"
)

// reach is from the least to the greatest value that something can have.
type reach struct{ low, high int }

func anything() reach {
	return reach{0, api.MaxValue}
}

func just(n int) reach {
	return reach{n, n}
}

// rangeOf bounds an expression by the ranges of variables.
func rangeOf(e api.Expr, of func(name string) reach) reach {
	var args [3]reach
	for i, a := range e.Args {
		args[i] = rangeOf(a, of)
	}
	x, y := args[0], args[1]
	switch e.Op {
	case api.OpNumber:
		return just(e.N)
	case api.OpVar:
		return of(e.Name)
	case api.OpAdd:
		return wrapped(x.low+y.low, x.high+y.high)
	case api.OpSub:
		return wrapped(x.low-y.high, x.high-y.low)
	case api.OpMul:
		return product(x, y)
	case api.OpLess:
		return known(x.high < y.low, x.low >= y.high)
	case api.OpSame:
		one := x == y && x.low == x.high
		return known(one, x.high < y.low || y.high < x.low)
	case api.OpNot:
		return known(x.high == 0, x.low > 0)
	}
	return chosen(x, y, args[2])
}

// wrapped is where a sum or a difference comes to, if all of it comes to the same thousand.
func wrapped(low, high int) reach {
	switch {
	case low > api.MaxValue:
		return reach{low - meaning.Modulus, high - meaning.Modulus}
	case high < 0:
		return reach{low + meaning.Modulus, high + meaning.Modulus}
	case low < 0 || high > api.MaxValue:
		return anything()
	}
	return reach{low, high}
}

func product(x, y reach) reach {
	if x.high*y.high > api.MaxValue {
		return anything()
	}
	return reach{x.low * y.low, x.high * y.high}
}

// known is the range of a truth of which one knows whether it always or never holds.
func known(always, never bool) reach {
	if always || never {
		return just(meaning.Truth(always))
	}
	return reach{0, 1}
}

func chosen(x, y, z reach) reach {
	switch {
	case x.low > 0:
		return y
	case x.high == 0:
		return z
	}
	return reach{min(y.low, z.low), max(y.high, z.high)}
}
