package fresh_test

import (
	"reflect"
	"testing"

	"promptbook/api"
	"promptbook/fresh"
)

// sample has each kind of list that a step can have.
func sample() api.Step {
	one := api.Expr{Op: api.OpNumber, N: 1}
	not := api.Expr{Op: api.OpNot, Args: []api.Expr{{Op: api.OpNot, Args: []api.Expr{one}}}}
	call := api.Step{Kind: api.StepCall, Proc: "p", Args: []string{"a", "b"}}
	inner := api.Step{Kind: api.StepIf, Role: "a", Expr: not, Then: []api.Step{call}}
	return api.Step{Kind: api.StepIf, Role: "a", Expr: not, Then: []api.Step{call}, Else: []api.Step{inner}}
}

func TestCopies(t *testing.T) { // Z2
	s := sample()
	c := fresh.Step(s)
	if !reflect.DeepEqual(c, s) {
		t.Errorf("got %v, want %v", c, s)
	}
	c.Expr.Args[0].Args[0].N = 2
	c.Then[0].Args[0] = "z"
	c.Else[0].Expr.Args[0].Op = api.OpVar
	c.Else[0].Then[0].Args[1] = "z"
	if !reflect.DeepEqual(s, sample()) {
		t.Error("a change of the copy is seen:", s)
	}
	h := fresh.Head(s)
	if len(h.Then)+len(h.Else) != 0 || h.Role != "a" || !reflect.DeepEqual(h.Expr, s.Expr) {
		t.Error("not the head:", h)
	}
	h.Expr.Args[0].Op = api.OpVar
	if !reflect.DeepEqual(s, sample()) {
		t.Error("a change of the head is seen:", s)
	}
}
