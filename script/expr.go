package script

import (
	"slices"
	"strconv"

	"promptbook/api"
	"promptbook/raw"
)

// levelOpen is that of what keeps operators before it from taking operands behind it: an open parenthesis, and a question mark without its colon.
const levelOpen = -1

// waiting is an operator, parenthesis or question mark that waits for what has to come behind it.
type waiting struct {
	sign  string
	op    int
	level int
}

// exprReader has stacks of its own, because parentheses can be as deep as a text is long.
type exprReader struct {
	values  []api.Expr
	waiting []waiting
}

// expr takes an expression: operands, and between them whatever asks for one more.
func (r *reader) expr(into *api.Expr) bool {
	var x exprReader
	for {
		if !x.operand(r) {
			return false
		}
		for r.next.text == ")" && x.closes() {
			r.advance()
		}
		if r.next.kind != wordFixed || !x.goesOn(r.next.text) {
			break
		}
		r.advance()
	}
	x.reduce(levelWhen)
	if len(x.waiting) > 0 {
		return false
	}
	*into = x.values[0]
	return true
}

// operand takes a number or a name, with all `!` and open parentheses before it.
func (x *exprReader) operand(r *reader) bool {
	for {
		if r.fixed("!") {
			x.wait("!", api.OpNot, levelUnary)
		} else if r.fixed("(") {
			x.wait("(", 0, levelOpen)
		} else {
			break
		}
	}
	var e api.Expr
	switch r.next.kind {
	case wordNumber:
		e.Op = api.OpNumber
		e.N, _ = strconv.Atoi(r.next.text)
	case wordName:
		e.Op, e.Name = api.OpVar, r.next.text
	default:
		return false
	}
	x.values = append(x.values, e)
	r.advance()
	return true
}

// closes ends what stands in the last open parenthesis, if there is one that can be closed.
func (x *exprReader) closes() bool {
	x.reduce(levelWhen)
	if x.last().sign != "(" {
		return false
	}
	x.waiting = x.waiting[:len(x.waiting)-1]
	return true
}

// goesOn says whether a sign can stand behind an operand, and makes it wait for the next one.
func (x *exprReader) goesOn(sign string) bool {
	switch sign {
	case "*":
		x.infix(sign, api.OpMul)
	case "+":
		x.infix(sign, api.OpAdd)
	case "-":
		x.infix(sign, api.OpSub)
	case "<":
		return x.compares(sign, api.OpLess)
	case "==":
		return x.compares(sign, api.OpSame)
	case "?":
		x.reduce(levelComp)
		x.wait(sign, 0, levelOpen)
	case ":":
		return x.colon()
	default:
		return false
	}
	return true
}

// infix has all operators before it that bind as tightly take their operands first.
func (x *exprReader) infix(sign string, op int) {
	x.reduce(level(op))
	x.wait(sign, op, level(op))
}

// compares does not let a comparison be the operand of another one.
func (x *exprReader) compares(sign string, op int) bool {
	x.reduce(levelSum)
	if x.last().level == levelComp {
		return false
	}
	x.wait(sign, op, levelComp)
	return true
}

// colon makes the last question mark an operator that waits for its third operand.
func (x *exprReader) colon() bool {
	x.reduce(levelWhen)
	if x.last().sign != "?" {
		return false
	}
	x.waiting[len(x.waiting)-1] = waiting{sign: ":", op: api.OpWhen, level: levelWhen}
	return true
}

func (x *exprReader) wait(sign string, op, binds int) {
	x.waiting = append(x.waiting, waiting{sign: sign, op: op, level: binds})
}

// last is what waits and came last; nothing at all if nothing waits.
func (x *exprReader) last() waiting {
	if len(x.waiting) == 0 {
		return waiting{level: levelOpen}
	}
	return x.waiting[len(x.waiting)-1]
}

// reduce has the last operators take their operands, as long as they are of at least a level.
func (x *exprReader) reduce(least int) {
	for x.last().level >= least {
		op := x.last().op
		x.waiting = x.waiting[:len(x.waiting)-1]
		first := len(x.values) - raw.Operands(op)
		e := api.Expr{Op: op, Args: slices.Clone(x.values[first:])}
		x.values = append(x.values[:first], e)
	}
}
