package script_test

import (
	"fmt"
	"reflect"
	"strings"
	"testing"

	"promptbook/api"
	"promptbook/script"
)

func same(t *testing.T, what string, got, want any) {
	t.Helper()
	if !reflect.DeepEqual(got, want) {
		t.Errorf("%s: got %s, want %s", short(what), short(fmt.Sprint(got)), short(fmt.Sprint(want)))
	}
}

// short keeps the texts of some tests out of their messages.
func short(s string) string {
	if len(s) > 2000 {
		return s[:2000] + " .."
	}
	return s
}

func number(n int) api.Expr {
	return api.Expr{Op: api.OpNumber, N: n}
}

func variable(s string) api.Expr {
	return api.Expr{Op: api.OpVar, Name: s}
}

func op(k int, l ...api.Expr) api.Expr {
	return api.Expr{Op: k, Args: l}
}

func send(role string, e api.Expr, to, name string) api.Step {
	return api.Step{Kind: api.StepSend, Role: role, Expr: e, To: to, Var: name}
}

func tell(role, to, label string) api.Step {
	return api.Step{Kind: api.StepTell, Role: role, To: to, Label: label}
}

func set(role, name string, e api.Expr) api.Step {
	return api.Step{Kind: api.StepSet, Role: role, Var: name, Expr: e}
}

func choice(role string, e api.Expr, then, otherwise []api.Step) api.Step {
	return api.Step{Kind: api.StepIf, Role: role, Expr: e, Then: then, Else: otherwise}
}

func call(proc string, args ...string) api.Step {
	return api.Step{Kind: api.StepCall, Proc: proc, Args: args}
}

func steps(l ...api.Step) []api.Step {
	return l
}

// nots is an expression of a depth, with e in its midst.
func nots(depth int, e api.Expr) api.Expr {
	for range depth - 1 {
		e = op(api.OpNot, e)
	}
	return e
}

// choices are steps of a depth, with s in their midst.
func choices(depth int, s api.Step) []api.Step {
	l := steps(s)
	for range depth - 1 {
		l = steps(choice("a", number(1), l, nil))
	}
	return l
}

// many is n times the same step.
func many(n int, s api.Step) []api.Step {
	var l []api.Step
	for range n {
		l = append(l, s)
	}
	return l
}

// roles are n names.
func roles(n int) []string {
	var l []string
	for i := range n {
		l = append(l, "r"+strings.Repeat("x", i))
	}
	return l
}

func read(t *testing.T, text string) api.Play {
	t.Helper()
	p, line, err := script.Read(text)
	if err != api.OK || line != 0 {
		t.Fatalf("Read(%q): line %d, error %d", text, line, err)
	}
	return p
}

func readExpr(t *testing.T, text string) api.Expr {
	t.Helper()
	e, line, err := script.ReadExpr(text)
	if err != api.OK || line != 0 {
		t.Fatalf("ReadExpr(%q): line %d, error %d", text, line, err)
	}
	return e
}

func text(t *testing.T, p api.Play) string {
	t.Helper()
	s, err := script.Text(p)
	if err != api.OK {
		t.Fatalf("Text(%v): error %d", p, err)
	}
	return s
}

func exprText(t *testing.T, e api.Expr) string {
	t.Helper()
	s, err := script.ExprText(e)
	if err != api.OK {
		t.Fatalf("ExprText(%v): error %d", e, err)
	}
	return s
}

// shop has each kind of steps, and steps within steps in Main and in a procedure.
const shop = `proc buy(b, s) {
  b.price * 2 -> s.x;
  if s.x < 10 {
    s -> b [yes];
    s.x := x;
  } else {
    s -> b [no];
  }
}
proc idle(z) {
}
proc wave(q) {
  q.n := 1;
}
main {
  buy(ann, bob);
  if cid.go {
    if cid.1 {
    } else {
      dan.2 -> eve.k;
    }
    cid -> dan [x];
  } else {
    wave(fay);
  }
  ann.1 + (x ? 2 : 3) -> bob.y;
}
`
