package part_test

import (
	"fmt"
	"strings"
	"testing"

	"promptbook/api"
	"promptbook/part"
	"promptbook/script"
)

// same compares the texts of values: empty and nil lists have the same one.
func same(t *testing.T, what string, got, want any) {
	t.Helper()
	if fmt.Sprint(got) != fmt.Sprint(want) {
		t.Errorf("%s: got %s, want %s", short(what), short(got), short(want))
	}
}

// short keeps the texts of some tests out of their messages.
func short(x any) string {
	s := fmt.Sprint(x)
	if len(s) > 2000 {
		return s[:2000] + " .."
	}
	return s
}

// laid lays out a text that can stand in one line as P6.2 says. Behind `;`, `{` and `}` a line ends, but between `}` and `else`.
func laid(s string) string {
	var out strings.Builder
	depth := 0
	for s = strings.TrimSpace(s); s != ""; s = strings.TrimSpace(s) {
		end := strings.IndexAny(s, ";{}")
		if strings.HasPrefix(s, "}") {
			depth--
			if strings.HasPrefix(s, "} else {") {
				end = len("} else {") - 1
			}
		}
		line := s[:end+1]
		out.WriteString(strings.Repeat("  ", depth) + line + "\n")
		if strings.HasSuffix(line, "{") {
			depth++
		}
		s = s[end+1:]
	}
	return out.String()
}

// read reads a part whose text need not be laid out.
func read(t *testing.T, s string) api.Part {
	t.Helper()
	p, line, err := part.Read(laid(s))
	if err != api.OK {
		t.Fatalf("Read(%s): line %d, error %d", short(laid(s)), line, err)
	}
	return p
}

func text(t *testing.T, p api.Part) string {
	t.Helper()
	s, err := part.Text(p)
	if err != api.OK {
		t.Fatalf("Text(%s): error %d", short(p), err)
	}
	return s
}

// words are a part's text in one line.
func words(t *testing.T, p api.Part) string {
	t.Helper()
	return strings.Join(strings.Fields(text(t, p)), " ")
}

func number(n int) api.Expr {
	return api.Expr{Op: api.OpNumber, N: n}
}

func name(s string) api.Expr {
	return api.Expr{Op: api.OpVar, Name: s}
}

func expr(t *testing.T, s string) api.Expr {
	t.Helper()
	e, _, err := script.ReadExpr(s)
	if err != api.OK {
		t.Fatalf("%q: error %d", s, err)
	}
	return e
}

// slots reads variables, as in "x=1 y=2".
func slots(s string) []api.Slot {
	var l []api.Slot
	for _, w := range strings.Fields(s) {
		left, right, _ := strings.Cut(w, "=")
		v := api.Slot{Name: left}
		fmt.Sscan(right, &v.Value)
		l = append(l, v)
	}
	return l
}

// heard reads values and labels, as in "a:1 b:yes".
func heard(s string) []api.Heard {
	var l []api.Heard
	for _, w := range strings.Fields(s) {
		left, right, _ := strings.Cut(w, ":")
		h := api.Heard{With: left}
		if n, _ := fmt.Sscan(right, &h.Value); n == 0 {
			h.Label = right
		}
		l = append(l, h)
	}
	return l
}

// everything is what all functions return for a part, what it hears and another part.
func everything(p api.Part, v []api.Slot, l []api.Heard, fuel int, pairs []api.Pair, q api.Part) []any {
	all := []any{part.CheckPart(p)}
	put := func(l ...any) { all = append(all, l...) }
	s, err := part.Text(p)
	put(s, err)
	n, depth, err := part.Count(p)
	put(n, depth, err)
	partners, err := part.Partners(p)
	put(partners, err)
	n, ends, err := part.Shortest(p)
	put(n, ends, err)
	drive, err := part.Run(p, v, l, fuel)
	put(drive, err)
	slim, n, err := part.Slim(p)
	put(slim, n, err)
	renamed, err := part.Renamed(p, pairs)
	put(renamed, err)
	is, err := part.Refines(p, q)
	put(is, err)
	is, err = part.Refines(q, p)
	put(is, err)
	return all
}

// nothing is what all functions return with an error of the part.
func nothing(err api.Errno) []any {
	return []any{err, "", err, 0, 0, err, []api.Partner{}, err, 0, false, err, api.Drive{}, err, api.Part{}, 0, err, api.Part{}, err, false, err, false, err}
}

// example is that of the chapter.
const example = "part b { take a x; set y x + 0; if x == x { send a y; } else { tell a no; } }"
