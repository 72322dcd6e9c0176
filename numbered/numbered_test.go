package numbered_test

import (
	"fmt"
	"testing"

	"promptbook/api"
	"promptbook/numbered"
	"promptbook/script"
)

const play = "proc p(x) { if x.v { x -> y [l]; q(x); } else { x.v := 1; } } proc q(x) { } main { if a.v { p(a); } else { none(a); } a.v := 2; }"

func TestNew(t *testing.T) { // P2.1
	p, _, err := script.Read(play)
	if err != api.OK {
		t.Fatal(err)
	}
	out := numbered.New(p)
	want := "0 4 -1 -1 [1] [2], 1 5 -1 0 [] [], 2 5 -1 -1 [] [], 3 3 -1 -1 [] [], 4 4 0 -1 [5 6] [7], 5 2 0 -1 [] [], 6 5 0 1 [] [], 7 3 0 -1 [] [], "
	got := ""
	for _, n := range out.Nodes {
		got += fmt.Sprint(n.Number, n.Step.Kind, n.Proc, n.Callee, numbers(n.Then), numbers(n.Else)) + ", "
	}
	if got != want {
		t.Errorf("got %s", got)
	}
	if got := fmt.Sprint(numbers(out.Main), numbers(out.Bodies[0]), numbers(out.Bodies[1]), numbers(out.Within[0]), numbers(out.Within[1])); got != "[0 3] [4] [] [4 5 6 7] []" {
		t.Errorf("lists: got %s", got)
	}
}

func numbers(l []*numbered.Node) []int {
	var out []int
	for _, n := range l {
		out = append(out, n.Number)
	}
	return out
}

func TestKeysAndNumbers(t *testing.T) { // P2.1
	p, _, _ := script.Read(play)
	out := numbered.New(p)
	if got := fmt.Sprint(out.Keys(func(proc int) bool { return proc == 1 }), out.Keys(func(int) bool { return true })); got != "[q] [p q]" {
		t.Errorf("keys: got %s", got)
	}
	if got := fmt.Sprint(out.Numbers(func(n *numbered.Node) bool { return n.Step.Kind == api.StepCall })); got != "[1 2 6]" {
		t.Errorf("numbers: got %s", got)
	}
}

func TestRoles(t *testing.T) { // P2.1
	p, _, err := script.Read("main { a.1 -> b.v; a -> b [l]; a.v := 1; if a.v { b.v := 1; } else { } p(c, b); }")
	if err != api.OK {
		t.Fatal(err)
	}
	got := ""
	for _, n := range numbered.New(p).Nodes {
		got += fmt.Sprint(n.Roles())
	}
	if got != "[a b][a b][a][a][b][c b]" {
		t.Errorf("got %s", got)
	}
}
