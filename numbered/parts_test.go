package numbered_test

import (
	"fmt"
	"testing"

	"promptbook/api"
	"promptbook/numbered"
)

func TestNewPart(t *testing.T) { // P6.1
	call := func(key string, index int) api.Act {
		return api.Act{Kind: api.ActCall, Proc: key, Index: index, Args: []string{"a", "b"}}
	}
	take := api.Act{Kind: api.ActTake, With: "a", Var: "v"}
	choice := api.Act{Kind: api.ActIf, Then: []api.Act{take, call("p", 1)}, Else: []api.Act{call("p", 0)}}
	offer := api.Act{Kind: api.ActOffer, With: "a", Offers: []api.Offer{{Label: "l"}, {Label: "m", Body: []api.Act{choice, call("q", 1)}}}}
	params := []string{"x", "y"}
	p := api.Part{Role: "b", Main: []api.Act{offer, take}, Locals: []api.Local{
		{Key: "p", Index: 1, Params: params, Body: []api.Act{call("p", 2), choice}}, {Key: "q", Index: 1, Params: params}, {Key: "p", Params: params, Body: []api.Act{take}},
	}}
	out := numbered.NewPart(p)
	got := ""
	for i, c := range out.Cues {
		if c.Number != i {
			t.Errorf("%d has the number %d", i, c.Number)
		}
		got += fmt.Sprint(c.Number, c.Act.Kind, c.Local, c.Callee)
		for _, block := range c.Blocks {
			got += fmt.Sprint(cues(block))
		}
		got += ", "
	}
	if want := "0 4 -1 -1[][1 5], 1 6 -1 -1[2 3][4], 2 2 -1 -1, 3 7 -1 0, 4 7 -1 2, 5 7 -1 1, 6 2 -1 -1, 7 7 0 -1, 8 6 0 -1[9 10][11], 9 2 0 -1, 10 7 0 0, 11 7 0 2, 12 2 2 -1, "; got != want {
		t.Errorf("got %s, want %s", got, want)
	}
	if got := fmt.Sprint(out.Role, len(out.Locals), cues(out.Main), cues(out.Bodies[0]), cues(out.Bodies[1]), cues(out.Bodies[2])); got != "b3 [0 6] [7 8] [] [12]" {
		t.Errorf("lists: got %s", got)
	}
}

func cues(l []*numbered.Cue) []int {
	var out []int
	for _, c := range l {
		out = append(out, c.Number)
	}
	return out
}
