package check

import (
	"maps"
	"slices"

	"promptbook/api"
	"promptbook/numbered"
	"promptbook/worklist"
)

// ways knows what the ways through a play have in common.
type ways struct {
	*tree
	variables map[string]int // those that any step sets, numbered
	through   []effect       // of the procedures' bodies, in terms of their Params
}

// effect is what all ways through a step or a list set, if there is one.
type effect struct {
	ends bool
	sets known
}

func newWays(t *tree) *ways {
	w := &ways{tree: t, variables: map[string]int{}, through: make([]effect, len(t.Procs))}
	for _, n := range t.Nodes {
		if _, ok := w.variables[n.Step.Var]; !ok && n.Step.Var != "" {
			w.variables[n.Step.Var] = len(w.variables)
		}
	}
	// As long as no way through a procedure is found, there is none: so there is one at last only if it has an end.
	t.settle(func(proc int) bool {
		before, now := w.through[proc], w.along(t.Bodies[proc])
		w.through[proc] = now
		return now.ends != before.ends || !now.sets.equal(before.sets)
	})
	return w
}

// along is the effect of a list: there is a way through it if there is one through each of its steps.
func (w *ways) along(l []*numbered.Node) effect {
	sets := known{}
	for _, n := range l {
		e := w.step(n)
		if !e.ends {
			return effect{}
		}
		sets.addAll(e.sets)
	}
	return effect{ends: true, sets: sets}
}

func (w *ways) step(n *numbered.Node) effect {
	switch n.Step.Kind {
	case api.StepSend:
		return w.setting(n.Step.To, n.Step.Var)
	case api.StepSet:
		return w.setting(n.Step.Role, n.Step.Var)
	case api.StepIf:
		return either(w.along(n.Then), w.along(n.Else))
	case api.StepCall:
		return w.calling(n)
	}
	return effect{ends: true}
}

func (w *ways) setting(role, name string) effect {
	return effect{ends: true, sets: known{role: flag(w.variables[name], len(w.variables))}}
}

// either is the effect of two branches: a way goes through one of them.
func either(a, b effect) effect {
	switch {
	case !a.ends:
		return b
	case !b.ends:
		return a
	}
	return effect{ends: true, sets: a.sets.common(b.sets)}
}

// calling is the effect of a procedure's body, as far as it is known, with the Args in the place of the Params.
func (w *ways) calling(n *numbered.Node) effect {
	e := w.through[n.Callee]
	if !e.ends {
		return effect{}
	}
	sets := known{}
	for i, param := range w.Procs[n.Callee].Params {
		sets.add(n.Step.Args[i], e.sets[param])
	}
	return effect{ends: true, sets: sets}
}

// visitor sees a step, and what is known before it.
type visitor func(n *numbered.Node, before *scope)

// walk visits the steps of a list to which one can come from its beginning, without those of the procedures that they call.
func (w *ways) walk(l []*numbered.Node, outer *scope, visit visitor) {
	here := &scope{own: known{}, outer: outer}
	for _, n := range l {
		visit(n, here)
		w.walk(n.Then, here, visit)
		w.walk(n.Else, here, visit)
		e := w.step(n)
		if !e.ends {
			return
		}
		here.own.addAll(e.sets)
	}
}

// entries are what is known at the beginning of each procedure, however it is reached; nil if it is not.
func (w *ways) entries() []known {
	entries := make([]known, len(w.Procs))
	list := worklist.New[int]()
	enter := func(n *numbered.Node, before *scope) {
		if n.Callee == numbered.NoProc {
			return
		}
		now, was := w.passed(n, before), entries[n.Callee]
		if was != nil {
			now = was.common(now)
		}
		if was == nil || !now.equal(was) {
			entries[n.Callee] = now
			list.Add(n.Callee)
		}
	}
	w.walk(w.Main, nil, enter)
	list.Run(func(proc int) {
		w.walk(w.Bodies[proc], &scope{own: entries[proc]}, enter)
	})
	return entries
}

// passed is what is known of the Params of a procedure where it is called.
func (w *ways) passed(n *numbered.Node, before *scope) known {
	k := known{}
	for i, param := range w.Procs[n.Callee].Params {
		k.add(param, before.of(n.Step.Args[i]))
	}
	return k
}

// everywhere visits all steps that are reached, in the order of their numbers.
func (w *ways) everywhere(visit visitor) {
	w.walk(w.Main, nil, visit)
	for i, k := range w.entries() {
		if k != nil {
			w.walk(w.Bodies[i], &scope{own: k}, visit)
		}
	}
}

// reached tells, by number, which steps are reached, and by index, which procedures such steps call.
func (w *ways) reached() (steps, procs []bool) {
	steps = make([]bool, len(w.Nodes))
	procs = make([]bool, len(w.Procs))
	w.everywhere(func(n *numbered.Node, _ *scope) {
		steps[n.Number] = true
		if n.Callee != numbered.NoProc {
			procs[n.Callee] = true
		}
	})
	return steps, procs
}

// early are the variables that are read where they are not known to be set.
func (w *ways) early() []api.Early {
	var out []api.Early
	w.everywhere(func(n *numbered.Node, before *scope) {
		for _, name := range reads(n.Step.Expr) {
			i, isSet := w.variables[name]
			if !isSet || !before.has(n.Step.Role, i) {
				out = append(out, api.Early{Step: n.Number, Role: n.Step.Role, Name: name})
			}
		}
	})
	return out
}

// reads are the variables that an expression names, rising.
func reads(e api.Expr) []string {
	names := map[string]bool{}
	var collect func(e api.Expr)
	collect = func(e api.Expr) {
		if e.Op == api.OpVar {
			names[e.Name] = true
		}
		for _, a := range e.Args {
			collect(a)
		}
	}
	collect(e)
	return slices.Sorted(maps.Keys(names))
}
