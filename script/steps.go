package script

import (
	"promptbook/api"
	"promptbook/fresh"
)

// eachStep calls visit for each step of a list, and for those within it, in the order of their numbers.
func eachStep(l []api.Step, depth int, visit func(s api.Step, depth int)) {
	for _, s := range l {
		visit(s, depth)
		eachStep(s.Then, depth+1, visit)
		eachStep(s.Else, depth+1, visit)
	}
}

// measure is how many steps a play has, and how deep they are.
func measure(p api.Play) (steps, deepest int) {
	visit := func(_ api.Step, depth int) {
		steps++
		deepest = max(deepest, depth)
	}
	eachStep(p.Main, 1, visit)
	for _, q := range p.Procs {
		eachStep(q.Body, 1, visit)
	}
	return steps, deepest
}

// checkNumber validates a play, and the number of one of its steps.
func checkNumber(p api.Play, n int) api.Errno {
	if err := CheckPlay(p); err != api.OK {
		return err
	}
	if steps, _ := measure(p); n < 0 || n >= steps {
		return api.ErrNone
	}
	return api.OK
}

// copySteps copies those steps that keep lets pass. It asks for each step before those within it, and not for those within one that is left out.
func copySteps(l []api.Step, keep func() bool) []api.Step {
	var out []api.Step
	for _, s := range l {
		if !keep() {
			continue
		}
		c := fresh.Head(s)
		c.Then = copySteps(s.Then, keep)
		c.Else = copySteps(s.Else, keep)
		out = append(out, c)
	}
	return out
}
