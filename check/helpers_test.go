package check_test

import (
	"fmt"
	"strings"
	"testing"

	"promptbook/api"
	"promptbook/check"
	"promptbook/script"
)

// same compares the texts of values: empty and nil lists have the same one.
func same(t *testing.T, what string, got, want any) {
	t.Helper()
	if fmt.Sprint(got) != fmt.Sprint(want) {
		t.Errorf("%s: got %s, want %s", what, short(got), short(want))
	}
}

// short keeps the texts of some tests out of their messages.
func short(x any) string {
	s := fmt.Sprint(x)
	if len(s) > 2000 {
		return s[:2000] + " .."
	}
	return s
}

func read(t *testing.T, text string) api.Play {
	t.Helper()
	p, line, err := script.Read(text)
	if err != api.OK {
		t.Fatalf("Read(%q): line %d, error %d", short(text), line, err)
	}
	return p
}

func text(t *testing.T, p api.Play) string {
	t.Helper()
	s, err := script.Text(p)
	if err != api.OK {
		t.Fatalf("Text(%s): error %d", short(p), err)
	}
	return s
}

// words are a play's text in one line.
func words(t *testing.T, p api.Play) string {
	t.Helper()
	return strings.Join(strings.Fields(text(t, p)), " ")
}

// everything is what all functions return for a play, some pairs and a number.
func everything(p api.Play, pairs []api.Pair, n int) []any {
	var all []any
	put := func(l ...any) { all = append(all, l...) }
	put(check.Check(p))
	steps, err := check.Steps(p)
	put(steps, err)
	step, key, err := check.Step(p, n)
	put(step, key, err)
	keys, ends, err := check.Endless(p)
	put(keys, ends, err)
	numbers, err := check.Unreached(p)
	put(numbers, err)
	keys, err = check.Called(p)
	put(keys, err)
	indices, err := check.Partakers(p)
	put(indices, err)
	early, err := check.Early(p)
	put(early, err)
	rings, err := check.Rings(p)
	put(rings, err)
	numbers, err = check.Deep(p)
	put(numbers, err)
	q, err := check.Trimmed(p)
	put(q, err)
	q, err = check.Inlined(p)
	put(q, err)
	q, err = check.Renamed(p, pairs)
	put(q, err)
	return all
}

// nothing is what all functions return with an error.
func nothing(err api.Errno) []any {
	return []any{
		err,
		0, err,
		api.Step{}, "", err,
		[]string{}, false, err,
		[]int{}, err,
		[]string{}, err,
		[][]int{}, err,
		[]api.Early{}, err,
		[][]string{}, err,
		[]int{}, err,
		api.Play{}, err,
		api.Play{}, err,
		api.Play{}, err,
	}
}

func number(n int) api.Expr {
	return api.Expr{Op: api.OpNumber, N: n}
}

// manyNames are n different names.
func manyNames(n int) []string {
	var l []string
	for i := range n {
		l = append(l, fmt.Sprint("n", i))
	}
	return l
}

// example is that of the chapter.
const example = `proc p(x, y) {
  x.1 -> y.v;
  if x.w {
    x -> y [again];
    p(x, y);
  } else {
    x -> y [stop];
  }
}
main {
  p(a, b);
}
`
