package part

import (
	"slices"

	"promptbook/api"
	"promptbook/raw"
	"promptbook/script"
)

// place is by what an act calls a Local.
type place struct {
	key   string
	index int
}

// checker goes through a part.
type checker struct {
	locals map[place]api.Local
	acts   int // how many it has seen
}

// stand is where acts stand: whose they are, and the Params of the Local (none in Main).
type stand struct {
	own    string
	params []string
}

func (c *checker) part(p api.Part) api.Errno {
	if !raw.IsName(p.Role) {
		return api.ErrName
	}
	if err := c.locate(p.Locals); err != api.OK {
		return err
	}
	if err := c.list(p.Main, stand{own: p.Role}, 1); err != api.OK {
		return err
	}
	for _, l := range p.Locals {
		if err := c.list(l.Body, stand{own: l.Params[l.Index], params: l.Params}, 1); err != api.OK {
			return err
		}
	}
	if c.acts > api.MaxActs {
		return api.ErrLarge
	}
	return api.OK
}

// locate checks Locals without their Bodies.
func (c *checker) locate(locals []api.Local) api.Errno {
	if len(locals) > api.MaxLocals {
		return api.ErrLarge
	}
	params := map[string][]string{}
	for _, l := range locals {
		if err := checkLocal(l); err != api.OK {
			return err
		}
		at := place{l.Key, l.Index}
		if _, twice := c.locals[at]; twice {
			return api.ErrTwice
		}
		if earlier, known := params[l.Key]; known && !slices.Equal(earlier, l.Params) {
			return api.ErrConflict
		}
		c.locals[at], params[l.Key] = l, l.Params
	}
	return api.OK
}

// checkLocal checks a Local by itself, without its Body.
func checkLocal(l api.Local) api.Errno {
	switch {
	case !raw.IsName(l.Key):
		return api.ErrName
	case len(l.Params) == 0:
		return api.ErrNone
	case len(l.Params) > api.MaxRoles:
		return api.ErrLarge
	}
	for i, role := range l.Params {
		if !raw.IsName(role) {
			return api.ErrName
		}
		if slices.Contains(l.Params[:i], role) {
			return api.ErrTwice
		}
	}
	if l.Index < 0 || l.Index >= len(l.Params) {
		return api.ErrArg
	}
	return api.OK
}

func (c *checker) list(l []api.Act, on stand, depth int) api.Errno {
	for _, a := range l {
		if err := c.act(a, on, depth); err != api.OK {
			return err
		}
		c.acts++
		for _, block := range blocks(a) {
			if err := c.list(block, on, depth+1); err != api.OK {
				return err
			}
		}
	}
	return api.OK
}

// act checks an act without those within it.
func (c *checker) act(a api.Act, on stand, depth int) api.Errno {
	f, ok := formOf(a.Kind)
	switch {
	case depth > api.MaxDepth:
		return api.ErrLarge
	case !ok:
		return api.ErrKind
	case f.hasOther(a):
		return api.ErrForm
	case !f.areNamed(a):
		return api.ErrName
	}
	if f.has(fieldExpr) {
		if err := script.CheckExpr(a.Expr); err != api.OK {
			return err
		}
	}
	switch {
	case f.has(fieldWith) && a.With == on.own:
		return api.ErrTwice
	case f.has(fieldWith) && !on.knows(a.With):
		return api.ErrRule
	case f.has(fieldOffers):
		return checkOffers(a.Offers)
	case f.has(fieldArgs):
		return c.call(a, on)
	}
	return api.OK
}

// knows says whether there is such a role: in Main it can be any one.
func (on stand) knows(role string) bool {
	return len(on.params) == 0 || slices.Contains(on.params, role)
}

// checkOffers checks Offers without their Bodies.
func checkOffers(l []api.Offer) api.Errno {
	if len(l) == 0 {
		return api.ErrNone
	}
	if len(l) > api.MaxOffers {
		return api.ErrLarge
	}
	for i, o := range l {
		if !raw.IsName(o.Label) {
			return api.ErrName
		}
		if i > 0 && o.Label <= l[i-1].Label {
			return api.ErrOrder
		}
	}
	return api.OK
}

func (c *checker) call(a api.Act, on stand) api.Errno {
	called, ok := c.locals[place{a.Proc, a.Index}]
	if !ok {
		return api.ErrNone
	}
	if len(called.Params) != len(a.Args) {
		return api.ErrForm
	}
	for i, role := range a.Args {
		switch {
		case !raw.IsName(role):
			return api.ErrName
		case slices.Contains(a.Args[:i], role):
			return api.ErrTwice
		case !on.knows(role):
			return api.ErrRule
		}
	}
	if a.Args[a.Index] != on.own {
		return api.ErrRule
	}
	return api.OK
}
