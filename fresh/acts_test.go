package fresh_test

import (
	"reflect"
	"testing"

	"promptbook/api"
	"promptbook/fresh"
)

// samplePart has each kind of list that a part can have.
func samplePart() api.Part {
	not := api.Expr{Op: api.OpNot, Args: []api.Expr{{Op: api.OpVar, Name: "v"}}}
	call := func() api.Act {
		return api.Act{Kind: api.ActCall, Proc: "p", Index: 1, Args: []string{"a", "b"}}
	}
	choice := api.Act{Kind: api.ActIf, Expr: not, Then: []api.Act{call()}, Else: []api.Act{call()}}
	offer := api.Act{Kind: api.ActOffer, With: "a", Offers: []api.Offer{{Label: "l", Body: []api.Act{call()}}}}
	return api.Part{Role: "b", Main: []api.Act{choice, offer}, Locals: []api.Local{{Key: "p", Index: 1, Params: []string{"x", "y"}, Body: []api.Act{call()}}}}
}

func TestCopiesOfParts(t *testing.T) { // Z2
	p := samplePart()
	c := fresh.Part(p)
	if !reflect.DeepEqual(c, p) {
		t.Errorf("got %v, want %v", c, p)
	}
	c.Main[0].Expr.Args[0].Name = "z"
	c.Main[0].Then[0].Args[0] = "z"
	c.Main[0].Else[0].Args[0] = "z"
	c.Main[1].Offers[0].Body[0].Args[1] = "z"
	c.Main[1].Offers[0].Label = "z"
	c.Locals[0].Params[0] = "z"
	c.Locals[0].Body[0].Args[0] = "z"
	c.Locals[0].Key = "z"
	if !reflect.DeepEqual(p, samplePart()) {
		t.Error("a change of the copy is seen:", p)
	}
	for i, a := range p.Main {
		h := fresh.ActHead(a)
		if len(h.Then)+len(h.Else)+len(h.Offers) != 0 || h.With != a.With || h.Kind != a.Kind || !reflect.DeepEqual(h.Expr, a.Expr) {
			t.Error("not the head:", i, h)
		}
	}
	h := fresh.ActHead(p.Main[0])
	h.Expr.Args[0].Name = "z"
	g := fresh.ActHead(p.Main[0].Then[0])
	g.Args[0] = "z"
	if !reflect.DeepEqual(p, samplePart()) {
		t.Error("a change of a head is seen:", p)
	}
}
