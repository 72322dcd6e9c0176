package check

import (
	"slices"

	"promptbook/api"
	"promptbook/fresh"
	"promptbook/numbered"
	"promptbook/raw"
)

// head puts a step in its own place.
func head(n *numbered.Node) []api.Step {
	return []api.Step{fresh.Head(n.Step)}
}

// rebuilt is a new list of steps: put gives what stands in the place of a step, of a StepIf without its branches.
func rebuilt(l []*numbered.Node, put func(n *numbered.Node) []api.Step) []api.Step {
	var out []api.Step
	for _, n := range l {
		place := put(n)
		if n.Step.Kind == api.StepIf && len(place) > 0 {
			place[0].Then = rebuilt(n.Then, put)
			place[0].Else = rebuilt(n.Else, put)
		}
		out = append(out, place...)
	}
	return out
}

// rebuiltPlay has those procedures for which keep holds.
func (t *tree) rebuiltPlay(keep func(proc int) bool, put func(n *numbered.Node) []api.Step) api.Play {
	p := api.Play{Main: rebuilt(t.Main, put)}
	for i, q := range t.Procs {
		if keep(i) {
			p.Procs = append(p.Procs, api.Proc{Key: q.Key, Params: slices.Clone(q.Params), Body: rebuilt(t.Bodies[i], put)})
		}
	}
	return p
}

func (t *tree) trimmed() api.Play {
	steps, procs := newWays(t).reached()
	return t.rebuiltPlay(func(proc int) bool { return procs[proc] }, func(n *numbered.Node) []api.Step {
		if !steps[n.Number] {
			return nil
		}
		return head(n)
	})
}

// rename replaces roles of steps, in their own memory, all at once.
func rename(l []api.Step, swap func(role *string)) {
	for i := range l {
		swap(&l[i].Role)
		swap(&l[i].To)
		for k := range l[i].Args {
			swap(&l[i].Args[k])
		}
		rename(l[i].Then, swap)
		rename(l[i].Else, swap)
	}
}

func (t *tree) renamed(pairs []api.Pair, roles []string) (api.Play, api.Errno) {
	if err := raw.CheckPairs(pairs, roles); err != api.OK {
		return api.Play{}, err
	}
	p := t.rebuiltPlay(func(int) bool { return true }, head)
	rename(p.Main, raw.Swap(pairs))
	return p, api.OK
}
