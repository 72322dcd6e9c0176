package script_test

import (
	"slices"
	"strings"
	"testing"

	"promptbook/api"
	"promptbook/script"
)

// grammar is that of P1.3, rule by rule; `play`, `procs` and the like are its left sides, all other words stand for themselves.
var grammar = map[string][]string{
	"play":    {"main block", "proc NAME ( names ) block play"},
	"names":   {"NAME", "NAME , names"},
	"block":   {"{ }", "{ steps }"},
	"steps":   {"step", "step steps"},
	"step":    {"NAME . expr -> NAME . NAME ;", "NAME -> NAME [ NAME ] ;", "NAME . NAME := expr ;", "if NAME . expr block else block", "NAME ( names ) ;"},
	"expr":    {"comp", "comp ? expr : expr"},
	"comp":    {"sum", "sum < sum", "sum == sum"},
	"sum":     {"product", "sum + product", "sum - product"},
	"product": {"unary", "product * unary"},
	"unary":   {"! unary", "NUMBER", "NAME", "( expr )"},
}

// item is a rule of which the first words have been found, from a place on.
type item struct {
	left  string
	right string
	done  int
	from  int
}

func (i item) next() string {
	if words := strings.Fields(i.right); i.done < len(words) {
		return words[i.done]
	}
	return ""
}

// grow adds to the items of a place those that follow from them.
func grow(places [][]item, at int) {
	add := func(i item) {
		if !slices.Contains(places[at], i) {
			places[at] = append(places[at], i)
		}
	}
	for k := 0; k < len(places[at]); k++ {
		i := places[at][k]
		if i.next() == "" {
			for _, j := range places[i.from] {
				if j.next() == i.left {
					j.done++
					add(j)
				}
			}
		}
		for _, right := range grammar[i.next()] {
			add(item{left: i.next(), right: right, from: at})
		}
	}
}

// firstWrong is the index of the first word with which no text of the grammar can go on (the number of all words, if more are needed), and whether there is none. It tries all rules at once, as Earley found.
func firstWrong(start string, words []string) (int, bool) {
	places := [][]item{{{left: "text", right: start}}}
	grow(places, 0)
	for at, w := range words {
		var l []item
		for _, i := range places[at] {
			if i.next() == class(w) {
				i.done++
				l = append(l, i)
			}
		}
		if len(l) == 0 {
			return at, false
		}
		places = append(places, l)
		grow(places, at+1)
	}
	whole := item{left: "text", right: start, done: 1}
	return len(words), slices.Contains(places[len(words)], whole)
}

// class is what the grammar calls a word of the tests.
func class(w string) string {
	switch {
	case w == "proc" || w == "main" || w == "if" || w == "else":
		return w
	case w[0] >= '0' && w[0] <= '9':
		return "NUMBER"
	case w[0] >= 'a' && w[0] <= 'z':
		return "NAME"
	}
	return w
}

var someWords = strings.Fields("proc main if else a b x 0 1 999 { } ( ) [ ] ; , . -> := + - * < == ! ? : =")

// words are those of a text that script.Text or script.ExprText has written.
func words(s string) []string {
	for _, sign := range strings.Fields("( ) [ ] ; , . !") {
		s = strings.ReplaceAll(s, sign, " "+sign+" ")
	}
	return strings.Fields(s)
}

// spoil changes a few words: one is left out, put in, replaced, or all behind it are cut off.
func (d *dice) spoil(l []string) []string {
	for range 1 + d.roll(2) {
		at, w := d.roll(len(l)), someWords[d.roll(len(someWords))]
		switch d.roll(4) {
		case 0:
			l = slices.Delete(l, at, at+1)
		case 1:
			l = slices.Insert(l, at, w)
		case 2:
			l[at] = w
		case 3:
			l = l[:at]
		}
		if len(l) == 0 {
			return []string{w}
		}
	}
	return l
}

func TestFirstWrongWord(t *testing.T) { // P1.3, P1.5
	d := dice{5}
	for range 3000 {
		// Each word has a line of its own, so that the line tells the word.
		l := d.spoil(words(text(t, d.play())))
		at, right := firstWrong("play", l)
		p, line, err := script.Read(strings.Join(l, "\n") + "\n")
		if right {
			same(t, strings.Join(l, " "), []any{line, err}, []any{0, script.CheckPlay(p)})
		} else {
			same(t, strings.Join(l, " "), []any{line, err}, []any{at, api.ErrSyntax})
		}
	}
	for range 10_000 {
		l := d.spoil(words(exprText(t, d.expr(5))))
		at, right := firstWrong("expr", l)
		_, line, err := script.ReadExpr(strings.Join(l, "\n") + "\n")
		if right {
			same(t, strings.Join(l, " "), []any{line, err}, []any{0, api.OK})
		} else {
			same(t, strings.Join(l, " "), []any{line, err}, []any{at, api.ErrSyntax})
		}
	}
}
