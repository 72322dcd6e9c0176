package run

import (
	"slices"

	"promptbook/api"
	"promptbook/cast"
	"promptbook/check"
	"promptbook/meaning"
	"promptbook/numbered"
	"promptbook/script"
)

// stage is a well-formed play made ready to be run, perhaps often.
type stage struct {
	*numbered.Play
	roles    []string
	meanings []meaning.Meaning // of the Exprs, by the numbers of the steps
}

func open(p api.Play) (*stage, api.Errno) {
	if err := check.Check(p); err != api.OK {
		return nil, err
	}
	roles, err := script.Roles(p)
	if err != api.OK {
		return nil, err
	}
	g := &stage{Play: numbered.New(p), roles: roles}
	for _, n := range g.Nodes {
		g.meanings = append(g.meanings, meaningOf(n.Step))
	}
	return g, api.OK
}

// meaningOf is that of a step's Expr, nil if it has none.
func meaningOf(s api.Step) meaning.Meaning {
	if s.Kind == api.StepTell || s.Kind == api.StepCall {
		return nil
	}
	return meaning.Of(s.Expr)
}

// frame is a list of steps that are done.
type frame struct {
	rest   []*numbered.Node
	cast   cast.Cast
	choice int // which deed was the choice of which it is a branch; noChoice if it is none
}

// machine does one step after the other.
type machine struct {
	*stage
	vars   variables
	frames []frame // the innermost one last
	deeds  []deed
}

// begin is what is to be done with some stores at first.
func (g *stage) begin(s []api.Store) (*machine, api.Errno) {
	if err := CheckStores(s); err != api.OK {
		return nil, err
	}
	for _, one := range s {
		if !slices.Contains(g.roles, one.Role) {
			return nil, api.ErrNone
		}
	}
	m := &machine{stage: g, vars: variablesOf(s)}
	m.frames = []frame{{rest: g.Main, choice: noChoice}}
	m.leave()
	return m, api.OK
}

// perform does steps to the end, or until most are done, and says whether it is the end.
func (m *machine) perform(most int) bool {
	for range most {
		if len(m.frames) == 0 {
			break
		}
		m.step()
	}
	return len(m.frames) == 0
}

// step does the next step.
func (m *machine) step() {
	f := &m.frames[len(m.frames)-1]
	n := f.rest[0]
	f.rest = f.rest[1:]
	d := deed{node: n, cast: f.cast, choice: noChoice}
	if v := m.meanings[n.Number]; v != nil {
		d.value = v(m.store(d.cast.Role(n.Step.Role)))
	}
	m.deeds = append(m.deeds, d)
	switch n.Step.Kind {
	case api.StepSend, api.StepSet:
		m.vars.set(d.target(), d.value)
	case api.StepIf:
		m.frames = append(m.frames, frame{rest: d.branch(), cast: d.cast, choice: len(m.deeds) - 1})
	case api.StepCall:
		m.frames = append(m.frames, frame{rest: m.Bodies[n.Callee], cast: d.cast.Called(m.Procs[n.Callee].Params, n.Step.Args), choice: noChoice})
	}
	m.leave()
}

// store gives the values of the variables of a role.
func (m *machine) store(role string) meaning.Lookup {
	return func(name string) int { return m.vars[api.Var{Role: role, Name: name}] }
}

// leave takes off the lists that have been done. (A list whose last step is a call stays until the body has been done, because a choice can end with it.)
func (m *machine) leave() {
	for len(m.frames) > 0 {
		f := m.frames[len(m.frames)-1]
		if len(f.rest) > 0 {
			return
		}
		m.frames = m.frames[:len(m.frames)-1]
		if f.choice != noChoice {
			m.deeds = append(m.deeds, deed{node: m.deeds[f.choice].node, cast: f.cast, choice: f.choice})
		}
	}
}
