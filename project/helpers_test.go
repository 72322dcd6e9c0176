package project_test

import (
	"fmt"
	"strings"
	"testing"

	"promptbook/api"
	"promptbook/project"
	"promptbook/script"
)

// same compares the texts of values: empty and nil lists have the same one.
func same(t *testing.T, what string, got, want any) {
	t.Helper()
	if fmt.Sprint(got) != fmt.Sprint(want) {
		t.Errorf("%s: got %s, want %s", short(what), short(got), short(want))
	}
}

// short keeps the texts of some tests out of their messages.
func short(x any) string {
	s := fmt.Sprint(x)
	if len(s) > 2000 {
		return s[:2000] + " .."
	}
	return s
}

func read(t *testing.T, text string) api.Play {
	t.Helper()
	p, line, err := script.Read(text)
	if err != api.OK {
		t.Fatalf("Read(%q): line %d, error %d", short(text), line, err)
	}
	return p
}

func text(t *testing.T, p api.Play) string {
	t.Helper()
	s, err := script.Text(p)
	if err != api.OK {
		t.Fatalf("Text(%s): error %d", short(p), err)
	}
	return s
}

// words are a play's text in one line.
func words(t *testing.T, p api.Play) string {
	t.Helper()
	return strings.Join(strings.Fields(text(t, p)), " ")
}

func number(n int) api.Expr {
	return api.Expr{Op: api.OpNumber, N: n}
}

func name(s string) api.Expr {
	return api.Expr{Op: api.OpVar, Name: s}
}

// brief writes acts in a line, as in `send b x; if x { set y 1; } else { }; offer a { yes { } no { take a z; } }`.
func brief(l []api.Act) string {
	var b strings.Builder
	for _, a := range l {
		expr, _ := script.ExprText(a.Expr)
		switch a.Kind {
		case api.ActSend:
			b.WriteString("send " + a.With + " " + expr)
		case api.ActTake:
			b.WriteString("take " + a.With + " " + a.Var)
		case api.ActTell:
			b.WriteString("tell " + a.With + " " + a.Label)
		case api.ActSet:
			b.WriteString("set " + a.Var + " " + expr)
		case api.ActIf:
			b.WriteString("if " + expr + " { " + brief(a.Then) + "} else { " + brief(a.Else) + "}")
		case api.ActCall:
			fmt.Fprintf(&b, "call %s %d (%s)", a.Proc, a.Index, strings.Join(a.Args, ", "))
		case api.ActOffer:
			b.WriteString("offer " + a.With + " { ")
			for _, o := range a.Offers {
				b.WriteString(o.Label + " { " + brief(o.Body) + "} ")
			}
			b.WriteString("}")
		}
		b.WriteString("; ")
	}
	return b.String()
}

// briefPart writes a part in a line.
func briefPart(p api.Part) string {
	out := "part " + p.Role + " { " + brief(p.Main) + "}"
	for _, l := range p.Locals {
		out += fmt.Sprintf(" local %s %d (%s) { %s}", l.Key, l.Index, strings.Join(l.Params, ", "), brief(l.Body))
	}
	return out
}

// everything is what all functions return for a play and a role.
func everything(p api.Play, role string) []any {
	var all []any
	put := func(l ...any) { all = append(all, l...) }
	part, err := project.Project(p, role)
	put(part, err)
	parts, err := project.All(p)
	put(parts, err)
	numbers, err := project.Blind(p, role)
	put(numbers, err)
	pairs, err := project.Needs(p)
	put(pairs, err)
	q, n, err := project.Amend(p)
	put(q, n, err)
	numbers, err = project.Spare(p)
	put(numbers, err)
	q, n, err = project.Plain(p)
	put(q, n, err)
	numbers, err = project.Taken(p, role)
	put(numbers, err)
	return all
}

// nothing is what all functions return with an error.
func nothing(err api.Errno) []any {
	return []any{api.Part{}, err, []api.Part{}, err, []int{}, err, []api.Pair{}, err, api.Play{}, 0, err, []int{}, err, api.Play{}, 0, err, []int{}, err}
}

// example is that of the chapter.
const example = "main { if a.x { a.1 -> b.y; } else { } }"
