package value

import (
	"slices"

	"promptbook/api"
	"promptbook/raw"
	"promptbook/script"
)

// maxWords is how much code is taken.
const maxWords = 10_000

func appendCode(c []api.Word, e api.Expr) []api.Word {
	for _, a := range e.Args {
		c = appendCode(c, a)
	}
	return append(c, api.Word{Op: e.Op, N: e.N, Name: e.Name})
}

// checkCode checks code up to its end, where just one value has to be.
func checkCode(c []api.Word) api.Errno {
	if len(c) > maxWords {
		return api.ErrLarge
	}
	values := 0
	for _, w := range c {
		if err := checkWord(w); err != api.OK {
			return err
		}
		values -= raw.Operands(w.Op)
		if values < 0 {
			return api.ErrState
		}
		values++
	}
	if values != 1 {
		return api.ErrForm
	}
	return api.OK
}

// checkWord checks a word as the expression that it would be with numbers as Args.
func checkWord(w api.Word) api.Errno {
	args := [3]api.Expr{number(0), number(0), number(0)}
	return script.CheckExpr(api.Expr{Op: w.Op, N: w.N, Name: w.Name, Args: args[:raw.Operands(w.Op)]})
}

// work does code that checkCode has found right, on a stack of whatever result gives for a word and its operands. It returns what is left, and how much was on the stack at most.
func work[T any](c []api.Word, result func(w api.Word, operands []T) T) (left T, most int) {
	var stack []T
	for _, w := range c {
		first := len(stack) - raw.Operands(w.Op)
		pushed := result(w, stack[first:])
		stack = append(stack[:first], pushed)
		most = max(most, len(stack))
	}
	return stack[0], most
}

// places are how many an expression needs. Whatever waits takes one more from those that come behind it, so that those that need most go first.
func places(e api.Expr) int {
	var needs []int
	for _, a := range e.Args {
		needs = append(needs, places(a))
	}
	slices.SortFunc(needs, func(a, b int) int { return b - a })
	most := 1
	for waiting, need := range needs {
		most = max(most, waiting+need)
	}
	return most
}
