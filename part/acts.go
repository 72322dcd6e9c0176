package part

import (
	"promptbook/api"
	"promptbook/fresh"
	"promptbook/value"
)

// blocks are the lists within an act.
func blocks(a api.Act) [][]api.Act {
	switch a.Kind {
	case api.ActIf:
		return [][]api.Act{a.Then, a.Else}
	case api.ActOffer:
		var l [][]api.Act
		for _, o := range a.Offers {
			l = append(l, o.Body)
		}
		return l
	}
	return nil
}

// each does something with all acts of a list, and with those within them.
func each(l []api.Act, do func(a *api.Act)) {
	for i := range l {
		do(&l[i])
		for _, block := range blocks(l[i]) {
			each(block, do)
		}
	}
}

// eachOf does something with all acts of a part.
func eachOf(p api.Part, do func(a *api.Act)) {
	each(p.Main, do)
	for _, l := range p.Locals {
		each(l.Body, do)
	}
}

// count is how many acts a list has, and how deep they are.
func count(l []api.Act) (acts, depth int) {
	for _, a := range l {
		acts++
		depth = max(depth, 1)
		for _, block := range blocks(a) {
			n, d := count(block)
			acts += n
			depth = max(depth, d+1)
		}
	}
	return acts, depth
}

func countOf(p api.Part) (acts, depth int) {
	acts, depth = count(p.Main)
	for _, l := range p.Locals {
		n, d := count(l.Body)
		acts += n
		depth = max(depth, d)
	}
	return acts, depth
}

// simplified is a copy of a part in which all Exprs are simple.
func simplified(p api.Part) api.Part {
	q := fresh.Part(p)
	eachOf(q, func(a *api.Act) {
		if f, _ := formOf(a.Kind); f.has(fieldExpr) {
			a.Expr, _ = value.Simple(a.Expr)
		}
	})
	return q
}
