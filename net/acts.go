package net

import (
	"strconv"
	"strings"

	"promptbook/api"
	"promptbook/cast"
	"promptbook/fresh"
	"promptbook/meaning"
	"promptbook/numbered"
	"promptbook/raw"
)

// act is an act with roles in the place of Params.
type act struct {
	head   api.Act         // its lists are still those of the part
	number int             // equal acts have equal numbers
	value  meaning.Meaning // of Expr, nil if it has none
	tape   *tape           // on which it puts a letter, or from which it takes one
	callee int
	blocks []*list
}

// list is acts that are done one after the other.
type list struct {
	acts   []*act
	number int
	hashes []uint64 // of the acts from each place on
	powers []uint64 // by which what comes behind the acts counts there
}

// copyist writes lists of a role, with roles in the place of Params.
type copyist struct {
	*numbered.Part
	network *network
	values  []meaning.Meaning // of the Exprs, by the numbers of the acts
	exprs   []int             // their numbers
	bodies  map[string]*list  // those of Locals that have been called, by the Local and the roles
}

func newCopyist(p api.Part, n *network) *copyist {
	c := &copyist{Part: numbered.NewPart(p), network: n, bodies: map[string]*list{}}
	for _, cue := range c.Cues {
		c.exprs = append(c.exprs, n.expr(cue.Act.Expr))
		c.values = append(c.values, meaningOf(cue.Act.Expr))
	}
	return c
}

// meaningOf is that of an act's Expr, nil if it has none.
func meaningOf(e api.Expr) meaning.Meaning {
	if e.Op == 0 {
		return nil
	}
	return meaning.Of(e)
}

// expr is the number of an expression.
func (n *network) expr(e api.Expr) int {
	key := []int{n.Word(e.Name), e.Op, e.N}
	for _, a := range e.Args {
		key = append(key, n.expr(a))
	}
	return n.Chain(key...)
}

// words is the number of a list of words.
func (n *network) words(l []string) int {
	var key []int
	for _, s := range l {
		key = append(key, n.Word(s))
	}
	return n.Chain(key...)
}

// body is that of a Local with these roles.
func (c *copyist) body(callee int, roles []string) *list {
	key := strconv.Itoa(callee) + " " + strings.Join(roles, " ")
	l, known := c.bodies[key]
	if !known {
		var main cast.Cast
		l = c.list(c.Bodies[callee], main.Called(c.Locals[callee].Params, roles))
		c.bodies[key] = l
	}
	return l
}

// list is a copy of a list of a part.
func (c *copyist) list(cues []*numbered.Cue, in cast.Cast) *list {
	l := &list{}
	var key []int
	for _, cue := range cues {
		a := c.act(cue, in)
		l.acts = append(l.acts, a)
		key = append(key, a.number)
	}
	l.number = c.network.Chain(key...)
	l.hash()
	return l
}

// act is a copy of an act, with those within it.
func (c *copyist) act(cue *numbered.Cue, in cast.Cast) *act {
	head := cue.Act
	head.With = in.Role(head.With)
	head.Args = nil
	for _, role := range cue.Act.Args {
		head.Args = append(head.Args, in.Role(role))
	}
	a := &act{head: head, value: c.values[cue.Number], callee: cue.Callee}
	for _, block := range cue.Blocks {
		a.blocks = append(a.blocks, c.list(block, in))
	}
	if a.puts() {
		a.tape = c.network.tape(c.Role, head.With)
	}
	if a.takes() {
		a.tape = c.network.tape(head.With, c.Role)
	}
	a.number = c.number(a, c.exprs[cue.Number])
	return a
}

// puts says whether an act puts a letter into a queue.
func (a *act) puts() bool {
	return a.head.Kind == api.ActSend || a.head.Kind == api.ActTell
}

// takes says whether an act takes a letter from a queue.
func (a *act) takes() bool {
	return a.head.Kind == api.ActTake || a.head.Kind == api.ActOffer
}

// fits says whether an act can take a letter.
func (a *act) fits(l api.Letter) bool {
	if a.head.Kind == api.ActTake {
		return l.Label == ""
	}
	_, ok := raw.Offered(a.head, l.Label)
	return ok
}

// number is that of an act with all that is in it.
func (c *copyist) number(a *act, expr int) int {
	n, h := c.network, a.head
	key := []int{h.Kind, n.Word(h.With), n.Word(h.Var), n.Word(h.Label), expr, n.Word(h.Proc), h.Index, n.words(h.Args)}
	for _, o := range h.Offers {
		key = append(key, n.Word(o.Label))
	}
	for _, block := range a.blocks {
		key = append(key, block.number)
	}
	return n.Chain(key...)
}

// written is an act as a part has it, in new memory.
func (a *act) written() api.Act {
	out := fresh.ActHead(a.head)
	switch a.head.Kind {
	case api.ActIf:
		out.Then, out.Else = a.blocks[0].written(), a.blocks[1].written()
	case api.ActOffer:
		for i, o := range a.head.Offers {
			out.Offers = append(out.Offers, api.Offer{Label: o.Label, Body: a.blocks[i].written()})
		}
	}
	return out
}

func (l *list) written() []api.Act {
	var out []api.Act
	for _, a := range l.acts {
		out = append(out, a.written())
	}
	return out
}
