package net_test

import (
	"fmt"
	"strings"
	"testing"

	"promptbook/api"
	"promptbook/net"
	"promptbook/part"
	"promptbook/run"
)

// same compares the texts of values: empty and nil lists have the same one.
func same(t *testing.T, what string, got, want any) {
	t.Helper()
	if fmt.Sprint(got) != fmt.Sprint(want) {
		t.Errorf("%s: got %s, want %s", short(what), short(got), short(want))
	}
}

// short keeps the texts of some tests out of their messages.
func short(x any) string {
	s := fmt.Sprint(x)
	if len(s) > 2000 {
		return s[:2000] + " .."
	}
	return s
}

// laid lays out a text that can stand in one line as P6.2 says. Behind `;`, `{` and `}` a line ends, but between `}` and `else`.
func laid(s string) string {
	var out strings.Builder
	depth := 0
	for s = strings.TrimSpace(s); s != ""; s = strings.TrimSpace(s) {
		end := strings.IndexAny(s, ";{}")
		if strings.HasPrefix(s, "}") {
			depth--
			if strings.HasPrefix(s, "} else {") {
				end = len("} else {") - 1
			}
		}
		line := s[:end+1]
		out.WriteString(strings.Repeat("  ", depth) + line + "\n")
		if strings.HasSuffix(line, "{") {
			depth++
		}
		s = s[end+1:]
	}
	return out.String()
}

// read reads parts whose text need not be laid out.
func read(t *testing.T, s string) []api.Part {
	t.Helper()
	var l []api.Part
	for _, one := range strings.Split(s, "part ")[1:] {
		p, line, err := part.Read(laid("part " + one))
		if err != api.OK {
			t.Fatalf("Read(%s): line %d, error %d", short(laid("part "+one)), line, err)
		}
		l = append(l, p)
	}
	return l
}

// text is that of parts.
func text(t *testing.T, l []api.Part) string {
	t.Helper()
	out := ""
	for _, p := range l {
		s, err := part.Text(p)
		if err != api.OK {
			t.Fatalf("Text(%s): error %d", short(p), err)
		}
		out += strings.Join(strings.Fields(s), " ") + " "
	}
	return out
}

// rest is the text of acts in one line.
func rest(t *testing.T, role string, l []api.Act) string {
	t.Helper()
	return strings.TrimSuffix(text(t, []api.Part{{Role: role, Main: simple(l)}}), "} ")[len("part "+role+" {"):]
}

// simple has acts of no kind that Text needs a Local for: calls are told.
func simple(l []api.Act) []api.Act {
	var out []api.Act
	for _, a := range l {
		if a.Kind == api.ActCall {
			a = api.Act{Kind: api.ActTell, With: "call", Label: strings.Join(append([]string{a.Proc, fmt.Sprint("i", a.Index)}, a.Args...), "_")}
		}
		a.Then, a.Else = simple(a.Then), simple(a.Else)
		var offers []api.Offer
		for _, o := range a.Offers {
			offers = append(offers, api.Offer{Label: o.Label, Body: simple(o.Body)})
		}
		a.Offers = offers
		out = append(out, a)
	}
	return out
}

// stores reads variables, as in "a x 1, b y 2".
func stores(t *testing.T, s string) []api.Store {
	t.Helper()
	if s == "" {
		return nil
	}
	l, line, err := run.ReadStores(strings.ReplaceAll(s, ", ", "\n") + "\n")
	if err != api.OK {
		t.Fatalf("ReadStores(%s): line %d, error %d", s, line, err)
	}
	return l
}

// storesText is the other way round.
func storesText(s []api.Store) string {
	text, _ := run.StoresText(s)
	return inLine(text)
}

// events are those of a text, as in "a send b 1, b take a x 1".
func eventsText(l []api.Event) string {
	text, err := run.EventsText(l)
	if err != api.OK {
		return fmt.Sprint("wrong events: ", err, l)
	}
	return inLine(text)
}

func inLine(text string) string {
	return strings.ReplaceAll(strings.TrimSuffix(text, "\n"), "\n", ", ")
}

// queuesText are queues, as in "a>b: 1 yes".
func queuesText(l []api.Queue) string {
	var out []string
	for _, q := range l {
		s := q.From + ">" + q.To + ":"
		for _, x := range q.Letters {
			switch {
			case x.Label == "":
				s += fmt.Sprint(" ", x.Value)
			case x.Value == 0:
				s += " " + x.Label
			default:
				s += fmt.Sprint(" wrong ", x)
			}
		}
		out = append(out, s)
	}
	return strings.Join(out, ", ")
}

// everything is what all functions return for two networks.
func everything(p, q []api.Part, s []api.Store, moves []string, choices []int, room, most int) []any {
	all := []any{net.CheckNet(p, s)}
	put := func(l ...any) { all = append(all, l...) }
	state, events, err := net.Reach(p, s, moves)
	put(state, events, err)
	names, err := net.Able(p, s, moves)
	put(names, err)
	last, events, names, err := net.Run(p, s, choices, most)
	put(last, events, names, err)
	names, err = net.Turns(p, s, most)
	put(names, err)
	queues, err := net.Left(p, s, choices, most)
	put(queues, err)
	told, err := net.Explore(p, s, room, most)
	put(told, err)
	names, is, err := net.Dead(p, s, room, most)
	put(names, is, err)
	ends, err := net.Ends(p, s, most)
	put(ends, err)
	is, err = net.Alike(p, q, s, most)
	put(is, err)
	return all
}

// nothing is what all functions return with an error of the network.
func nothing(err api.Errno) []any {
	return []any{err, api.State{}, []int{}, err, []int{}, err, []int{}, []int{}, []int{}, err, []int{}, err, []int{}, err, api.Explored{}, err, []int{}, false, err, []int{}, err, false, err}
}

// example is that of the chapter.
const example = "part a { send b 1; take b y; } part b { send a 2; take a x; }"
