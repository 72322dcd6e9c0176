package catalog_test

import (
	"fmt"
	"testing"

	"promptbook/catalog"
)

// register holds that equal things have equal numbers, and different ones different numbers.
type register struct {
	numbers map[string]int
	things  map[int]string
}

func newRegister() register {
	return register{map[string]int{}, map[int]string{}}
}

func (r register) put(t *testing.T, what string, n int) {
	t.Helper()
	if earlier, known := r.numbers[what]; known && earlier != n {
		t.Fatalf("%s has the numbers %d and %d", what, earlier, n)
	}
	if other, known := r.things[n]; known && other != what {
		t.Fatalf("%s has the number %d, as %s", what, n, other)
	}
	r.numbers[what], r.things[n] = n, what
}

func TestWords(t *testing.T) { // P7.3
	c, all := catalog.New(), newRegister()
	for i := range 300 {
		what := fmt.Sprint("w", i*7%31)
		n := c.Word(what)
		if n < 1 {
			t.Errorf("%s has the number %d", what, n)
		}
		all.put(t, what, n)
	}
	all.put(t, "", c.Word(""))
}

func TestPairs(t *testing.T) { // P7.3
	c, all := catalog.New(), newRegister()
	for range 2 {
		for i := range 40 {
			for j := range 40 {
				all.put(t, fmt.Sprint(i, j), c.Pair(i, j))
			}
		}
	}
	if n := c.Pair(0, 0); n != 0 {
		t.Error("0 and 0 have the number", n)
	}
}

func TestChains(t *testing.T) { // P7.3
	c, all := catalog.New(), newRegister()
	add := func(l ...int) { all.put(t, fmt.Sprint(l), c.Chain(l...)) }
	for range 2 {
		add()
		for i := 1; i < 8; i++ {
			add(i)
			for j := range 8 {
				add(i, j)
				add(i, j, 0)
				add(i, j, 1)
				add(1, i, j, 2)
				add(1, j, 0, 0)
			}
		}
	}
	if n := c.Chain(); n != 0 {
		t.Error("the empty list has the number", n)
	}
}

func TestLists(t *testing.T) { // P7.3
	c, all := catalog.New(), newRegister()
	want, list := [100]int{}, 0
	for k := range 20_000 {
		at, n := k*k*31%97, k*7%3
		want[at] = n
		list = c.Set(list, at, n)
		all.put(t, fmt.Sprint(want), list)
		for i, n := range want {
			if got := c.Get(list, i); got != n {
				t.Fatalf("move %d, place %d: got %d, want %d", k, i, got, n)
			}
		}
	}
	for at := range want {
		list = c.Set(list, at, 0)
	}
	if list != 0 {
		t.Error("the list in which nothing is set is", list)
	}
	far, again := c.Set(c.Set(0, 3, 5), 100_000, 6), c.Set(c.Set(0, 100_000, 6), 3, 5)
	if far != again || c.Get(far, 100_000) != 6 || c.Get(far, 3) != 5 || c.Get(far, 99_999) != 0 {
		t.Error("places far away:", far, again)
	}
}
