// Package catalog gives numbers to words, to pairs of numbers and to lists of numbers: equal ones have equal numbers, different ones have different numbers.
package catalog

type pair struct{ first, second int }

// Catalog knows what has got a number. The pair of 0 and 0 has the number 0, so that 0 is also a list in which nothing is set.
type Catalog struct {
	words   map[string]int
	numbers map[pair]int
	all     []pair
}

// New is a catalog in which nothing is yet.
func New() *Catalog {
	return &Catalog{words: map[string]int{}, numbers: map[pair]int{{}: 0}, all: []pair{{}}}
}

// Word is the number of a word, from 1 on.
func (c *Catalog) Word(s string) int {
	n, known := c.words[s]
	if !known {
		n = len(c.words) + 1
		c.words[s] = n
	}
	return n
}

// Pair is the number of a pair.
func (c *Catalog) Pair(first, second int) int {
	p := pair{first, second}
	n, known := c.numbers[p]
	if !known {
		n = len(c.all)
		c.numbers[p] = n
		c.all = append(c.all, p)
	}
	return n
}

// Chain is the number of a list of numbers, of which the first one must not be 0. Only the empty list has the number 0.
func (c *Catalog) Chain(l ...int) int {
	chain := 0
	for _, n := range l {
		chain = c.Pair(chain, n)
	}
	return chain
}

// Get is what is set at a place of a list, 0 if nothing is.
func (c *Catalog) Get(list, at int) int {
	for at > 0 {
		odd, even := c.halves(list)
		list = even
		if at%2 == 1 {
			list = odd
		}
		at = (at - 1) / 2
	}
	return c.all[list].first
}

// Set is the list in which a place has another number.
func (c *Catalog) Set(list, at, number int) int {
	if at == 0 {
		return c.Pair(number, c.all[list].second)
	}
	odd, even := c.halves(list)
	if at%2 == 1 {
		odd = c.Set(odd, (at-1)/2, number)
	} else {
		even = c.Set(even, (at-1)/2, number)
	}
	return c.Pair(c.all[list].first, c.Pair(odd, even))
}

// halves are the lists of what is set at the odd places, and at the even ones but 0. (A list is the pair of what is set at 0 with the pair of these, so that few pairs are new if one place is set.)
func (c *Catalog) halves(list int) (odd, even int) {
	p := c.all[c.all[list].second]
	return p.first, p.second
}
