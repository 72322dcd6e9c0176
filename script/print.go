package script

import (
	"slices"
	"strconv"
	"strings"

	"promptbook/api"
)

// Levels of expressions by the rules of the grammar, from the loosest to the tightest.
const (
	levelWhen = iota
	levelComp
	levelSum
	levelProduct
	levelUnary
)

func level(op int) int {
	switch op {
	case api.OpWhen:
		return levelWhen
	case api.OpLess, api.OpSame:
		return levelComp
	case api.OpAdd, api.OpSub:
		return levelSum
	case api.OpMul:
		return levelProduct
	}
	return levelUnary
}

// sign is how an operator of two Args is written.
func sign(op int) string {
	switch op {
	case api.OpAdd:
		return "+"
	case api.OpSub:
		return "-"
	case api.OpMul:
		return "*"
	case api.OpLess:
		return "<"
	}
	return "=="
}

// printer writes a text, and stops as soon as it is too large.
type printer struct {
	text   strings.Builder
	large  bool
	begins []int // where in the text the steps begin
}

func (w *printer) result() (string, api.Errno) {
	if w.large {
		return "", api.ErrLarge
	}
	return w.text.String(), api.OK
}

func (w *printer) put(parts ...string) {
	for _, s := range parts {
		if w.large || w.text.Len()+len(s) > api.MaxText {
			w.large = true
			return
		}
		w.text.WriteString(s)
	}
}

// operand writes an expression where the grammar wants one of at least a level.
func (w *printer) operand(e api.Expr, least int) {
	if level(e.Op) >= least {
		w.expr(e)
		return
	}
	w.put("(")
	w.expr(e)
	w.put(")")
}

func (w *printer) expr(e api.Expr) {
	if w.large {
		return
	}
	switch e.Op {
	case api.OpNumber:
		w.put(strconv.Itoa(e.N))
	case api.OpVar:
		w.put(e.Name)
	case api.OpNot:
		w.put("!")
		w.operand(e.Args[0], levelUnary)
	case api.OpWhen:
		w.operand(e.Args[0], levelComp)
		w.put(" ? ")
		w.operand(e.Args[1], levelWhen)
		w.put(" : ")
		w.operand(e.Args[2], levelWhen)
	default:
		own := level(e.Op)
		left := own
		if own == levelComp { // comparisons cannot be chained
			left = levelSum
		}
		w.operand(e.Args[0], left)
		w.put(" ", sign(e.Op), " ")
		w.operand(e.Args[1], own+1)
	}
}

func (w *printer) play(p api.Play) {
	for _, q := range p.Procs {
		w.put("proc ", q.Key, "(", strings.Join(q.Params, ", "), ") {\n")
		w.steps(q.Body, 1)
		w.put("}\n")
	}
	inProcs := len(w.begins)
	w.put("main {\n")
	w.steps(p.Main, 1)
	w.put("}\n")
	// Main is written last, but its steps are numbered first.
	w.begins = slices.Concat(w.begins[inProcs:], w.begins[:inProcs])
}

func (w *printer) steps(l []api.Step, depth int) {
	indent := strings.Repeat("  ", depth)
	for _, s := range l {
		w.begins = append(w.begins, w.text.Len())
		w.put(indent)
		w.step(s)
		if s.Kind == api.StepIf {
			w.put(" {\n")
			w.steps(s.Then, depth+1)
			w.put(indent, "} else {\n")
			w.steps(s.Else, depth+1)
			w.put(indent, "}\n")
		} else {
			w.put(";\n")
		}
	}
}

// step writes a step up to its semicolon, or its first block.
func (w *printer) step(s api.Step) {
	switch s.Kind {
	case api.StepSend:
		w.put(s.Role, ".")
		w.expr(s.Expr)
		w.put(" -> ", s.To, ".", s.Var)
	case api.StepTell:
		w.put(s.Role, " -> ", s.To, " [", s.Label, "]")
	case api.StepSet:
		w.put(s.Role, ".", s.Var, " := ")
		w.expr(s.Expr)
	case api.StepIf:
		w.put("if ", s.Role, ".")
		w.expr(s.Expr)
	case api.StepCall:
		w.put(s.Proc, "(", strings.Join(s.Args, ", "), ")")
	}
}
