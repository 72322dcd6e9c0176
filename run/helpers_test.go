package run_test

import (
	"fmt"
	"strings"
	"testing"

	"promptbook/api"
	"promptbook/script"
)

// same compares the texts of values: empty and nil lists have the same one.
func same(t *testing.T, what string, got, want any) {
	t.Helper()
	if fmt.Sprint(got) != fmt.Sprint(want) {
		t.Errorf("%s: got %s, want %s", short(what), short(got), short(want))
	}
}

// short keeps the texts of some tests out of their messages.
func short(x any) string {
	s := fmt.Sprint(x)
	if len(s) > 2000 {
		return s[:2000] + " .."
	}
	return s
}

func read(t *testing.T, text string) api.Play {
	t.Helper()
	p, line, err := script.Read(text)
	if err != api.OK {
		t.Fatalf("Read(%q): line %d, error %d", short(text), line, err)
	}
	return p
}

func text(t *testing.T, p api.Play) string {
	t.Helper()
	s, err := script.Text(p)
	if err != api.OK {
		t.Fatalf("Text(%s): error %d", short(p), err)
	}
	return s
}

func number(n int) api.Expr {
	return api.Expr{Op: api.OpNumber, N: n}
}

// variable reads one as in "a.x".
func variable(s string) api.Var {
	role, name, _ := strings.Cut(s, ".")
	return api.Var{Role: role, Name: name}
}

// vars reads some, separated by blanks.
func vars(s string) []api.Var {
	var l []api.Var
	for _, w := range strings.Fields(s) {
		l = append(l, variable(w))
	}
	return l
}

// stores reads variables with their values, as in "a.x=1 b.y=2".
func stores(s string) []api.Store {
	var l []api.Store
	for _, w := range strings.Fields(s) {
		left, right, _ := strings.Cut(w, "=")
		v := variable(left)
		n := 0
		fmt.Sscan(right, &n)
		if len(l) == 0 || l[len(l)-1].Role != v.Role {
			l = append(l, api.Store{Role: v.Role})
		}
		last := &l[len(l)-1]
		last.Vars = append(last.Vars, api.Slot{Name: v.Name, Value: n})
	}
	return l
}

// bunch reads several lists of stores, separated by `|`.
func bunch(s string) [][]api.Store {
	var all [][]api.Store
	for _, one := range strings.Split(s, "|") {
		all = append(all, stores(one))
	}
	return all
}

// events reads them as P4.6 writes them, but separated by `;`.
func events(s string) []api.Event {
	var l []api.Event
	for _, one := range strings.Split(s, ";") {
		w := strings.Fields(one)
		if len(w) == 0 {
			continue
		}
		e := api.Event{Role: w[0]}
		n := w[len(w)-1]
		switch w[1] {
		case "send":
			e.Kind, e.With = api.ActSend, w[2]
		case "take":
			e.Kind, e.With, e.Name = api.ActTake, w[2], w[3]
		case "tell":
			e.Kind, e.With, e.Name, n = api.ActTell, w[2], w[3], "0"
		case "offer":
			e.Kind, e.With, e.Name, n = api.ActOffer, w[2], w[3], "0"
		case "set":
			e.Kind, e.Name = api.ActSet, w[2]
		case "if":
			e.Kind = api.ActIf
		default:
			panic(one)
		}
		fmt.Sscan(n, &e.Value)
		l = append(l, e)
	}
	return l
}

// manySlots are n variables.
func manySlots(n int) []api.Slot {
	var v []api.Slot
	for i := range n {
		v = append(v, api.Slot{Name: fmt.Sprintf("v%06d", i), Value: i%api.MaxValue + 1})
	}
	return v
}

// manyStores are those of n roles, with one variable each.
func manyStores(n int) []api.Store {
	var s []api.Store
	for i := range n {
		s = append(s, api.Store{Role: fmt.Sprintf("r%06d", i), Vars: []api.Slot{{Name: "x", Value: 1}}})
	}
	return s
}

// example is that of the chapter.
const example = "main { a.x := 7; a.x + 1 -> b.y; if b.y < 5 { b.z := 1; } else { } }"
