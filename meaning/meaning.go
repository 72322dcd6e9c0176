// Package meaning makes expressions ready to be evaluated.
package meaning

import "promptbook/api"

// Modulus is how many values there are.
const Modulus = api.MaxValue + 1

// Lookup gives the values of variables.
type Lookup func(name string) int

// Meaning is an expression made ready to be evaluated, perhaps often.
type Meaning func(of Lookup) int

// Of is the meaning of an expression that script.CheckExpr has found right.
func Of(e api.Expr) Meaning {
	var args []Meaning
	for _, a := range e.Args {
		args = append(args, Of(a))
	}
	return OfWord(api.Word{Op: e.Op, N: e.N, Name: e.Name}, args)
}

// OfWord is that of a word of code with its operands. It does not keep their list.
func OfWord(w api.Word, operands []Meaning) Meaning {
	switch w.Op {
	case api.OpNumber:
		return func(Lookup) int { return w.N }
	case api.OpVar:
		return func(of Lookup) int { return of(w.Name) }
	case api.OpNot:
		x := operands[0]
		return func(of Lookup) int { return Truth(x(of) == 0) }
	case api.OpWhen:
		return choice(operands[0], operands[1], operands[2])
	}
	return ofTwo(w.Op, operands[0], operands[1])
}

func ofTwo(op int, x, y Meaning) Meaning {
	switch op {
	case api.OpAdd:
		return func(of Lookup) int { return (x(of) + y(of)) % Modulus }
	case api.OpSub:
		return func(of Lookup) int { return (x(of) - y(of) + Modulus) % Modulus }
	case api.OpMul:
		return func(of Lookup) int { return x(of) * y(of) % Modulus }
	case api.OpLess:
		return func(of Lookup) int { return Truth(x(of) < y(of)) }
	}
	return func(of Lookup) int { return Truth(x(of) == y(of)) }
}

func choice(x, y, z Meaning) Meaning {
	return func(of Lookup) int {
		if x(of) != 0 {
			return y(of)
		}
		return z(of)
	}
}

// Truth is the value of what holds, or does not.
func Truth(b bool) int {
	if b {
		return 1
	}
	return 0
}
