package raw_test

import (
	"strings"
	"testing"

	"promptbook/api"
	"promptbook/raw"
)

func TestNames(t *testing.T) { // P1.1
	long := strings.Repeat("a", api.MaxName)
	for _, s := range []string{"a", "z", "a0", "x_", "if1", "mains", "proc_", long} {
		if !raw.IsName(s) {
			t.Errorf("%q is a name", s)
		}
	}
	for _, s := range []string{"", "_", "0", "9a", "_a", "A", "aB", "a-b", "a b", "a ", "ä", "a\x00", "proc", "main", "if", "else", long + "a"} {
		if raw.IsName(s) {
			t.Errorf("%q is no name", s)
		}
	}
}

func TestLettersAndDigits(t *testing.T) { // P1.1
	for c := range 256 {
		if got, want := raw.IsSmall(byte(c)), strings.IndexByte("abcdefghijklmnopqrstuvwxyz", byte(c)) >= 0; got != want {
			t.Errorf("IsSmall(%d): got %v", c, got)
		}
		if got, want := raw.IsDigit(byte(c)), strings.IndexByte("0123456789", byte(c)) >= 0; got != want {
			t.Errorf("IsDigit(%d): got %v", c, got)
		}
	}
}

func TestReserved(t *testing.T) { // P1.1
	for _, s := range []string{"proc", "main", "if", "else"} {
		if !raw.IsReserved(s) {
			t.Errorf("%q is reserved", s)
		}
	}
	for _, s := range []string{"", "a", "If", "elses", "pro"} {
		if raw.IsReserved(s) {
			t.Errorf("%q is not reserved", s)
		}
	}
}

func TestOperands(t *testing.T) { // P1.1
	for op, want := range map[int]int{api.OpNumber: 0, api.OpVar: 0, api.OpAdd: 2, api.OpSub: 2, api.OpMul: 2, api.OpLess: 2, api.OpSame: 2, api.OpNot: 1, api.OpWhen: 3} {
		if got := raw.Operands(op); got != want {
			t.Errorf("Operands(%d): got %d, want %d", op, got, want)
		}
	}
}

func TestEqual(t *testing.T) { // P5.2
	number := func(n int) api.Expr { return api.Expr{Op: api.OpNumber, N: n} }
	two := func(op int, x, y api.Expr) api.Expr { return api.Expr{Op: op, Args: []api.Expr{x, y}} }
	v, w := api.Expr{Op: api.OpVar, Name: "v"}, api.Expr{Op: api.OpVar, Name: "w"}
	all := []api.Expr{{}, number(0), number(1), v, w, two(api.OpAdd, v, w), two(api.OpSub, v, w), two(api.OpAdd, w, v), two(api.OpAdd, v, two(api.OpMul, v, w)), two(api.OpAdd, v, two(api.OpMul, v, v)), {Op: api.OpNot, Args: []api.Expr{v}}}
	for i, a := range all {
		for k, b := range all {
			if raw.Equal(a, b) != (i == k) {
				t.Errorf("%v and %v: not %v", a, b, i == k)
			}
		}
	}
	if !raw.Equal(api.Expr{Op: api.OpVar, Name: "v", Args: []api.Expr{}}, v) {
		t.Error("an empty list is a nil one")
	}
}

func TestEqualHeads(t *testing.T) { // P5.2, P6.5
	full := api.Act{Kind: api.ActCall, With: "w", Var: "v", Label: "l", Expr: api.Expr{N: 1}, Proc: "p", Index: 1, Args: []string{"a", "b"}}
	all := []api.Act{full, full, full, full, full, full, full, full, full, full}
	all[1].Kind, all[2].With, all[3].Var, all[4].Label, all[5].Expr.N, all[6].Proc, all[7].Index = 0, "", "", "", 0, "", 0
	all[8].Args, all[9].Args = []string{"a"}, []string{"b", "a"}
	for i, a := range all {
		for k, b := range all {
			if raw.EqualHeads(a, b) != (i == k) {
				t.Errorf("%v and %v: not %v", a, b, i == k)
			}
		}
	}
	within := full
	within.Then, within.Else, within.Offers = all[:1], all[:2], make([]api.Offer, 1)
	if !raw.EqualHeads(within, full) || !raw.EqualHeads(api.Act{Args: []string{}}, api.Act{}) {
		t.Error("what is within belongs to no head, and an empty list is a nil one")
	}
}
