package value

import "promptbook/api"

// modulus is how many values there are.
const modulus = api.MaxValue + 1

// lookup gives the values of variables.
type lookup func(name string) int

// meaning is an expression made ready to be evaluated, perhaps often.
type meaning func(of lookup) int

func compile(e api.Expr) meaning {
	var args []meaning
	for _, a := range e.Args {
		args = append(args, compile(a))
	}
	return meaningOf(api.Word{Op: e.Op, N: e.N, Name: e.Name}, args)
}

// meaningOf is that of a word of code with its operands. It does not keep their list.
func meaningOf(w api.Word, operands []meaning) meaning {
	switch w.Op {
	case api.OpNumber:
		return func(lookup) int { return w.N }
	case api.OpVar:
		return func(of lookup) int { return of(w.Name) }
	case api.OpNot:
		x := operands[0]
		return func(of lookup) int { return truth(x(of) == 0) }
	case api.OpWhen:
		return choice(operands[0], operands[1], operands[2])
	}
	return meaningOfTwo(w.Op, operands[0], operands[1])
}

func meaningOfTwo(op int, x, y meaning) meaning {
	switch op {
	case api.OpAdd:
		return func(of lookup) int { return (x(of) + y(of)) % modulus }
	case api.OpSub:
		return func(of lookup) int { return (x(of) - y(of) + modulus) % modulus }
	case api.OpMul:
		return func(of lookup) int { return x(of) * y(of) % modulus }
	case api.OpLess:
		return func(of lookup) int { return truth(x(of) < y(of)) }
	}
	return func(of lookup) int { return truth(x(of) == y(of)) }
}

func choice(x, y, z meaning) meaning {
	return func(of lookup) int {
		if x(of) != 0 {
			return y(of)
		}
		return z(of)
	}
}

func truth(b bool) int {
	if b {
		return 1
	}
	return 0
}
