package script

import "promptbook/api"

// reader takes words one after the other. Its methods take what they are named for and return true; otherwise the next word is the first one that does not fit.
type reader struct {
	next word
	line int    // the one in which the next word begins
	rest string // all that is behind the next word
}

func newReader(text string) *reader {
	r := &reader{rest: text}
	r.advance()
	return r
}

// advance goes on to the word behind the next one.
func (r *reader) advance() {
	r.skip()
	r.next = firstWord(r.rest)
	r.rest = r.rest[len(r.next.text):]
}

// skip leaves out what separates words.
func (r *reader) skip() {
	for r.rest != "" {
		skipped := 1
		switch r.rest[0] {
		case '\n':
			r.line++
		case ' ', '\t':
		case '#':
			skipped = commentLength(r.rest)
		default:
			return
		}
		r.rest = r.rest[skipped:]
	}
}

func (r *reader) ended() bool {
	return r.next.kind == wordEnd
}

// fixed takes a word that the grammar names.
func (r *reader) fixed(text string) bool {
	if r.next.kind != wordFixed || r.next.text != text {
		return false
	}
	r.advance()
	return true
}

func (r *reader) name(into *string) bool {
	if r.next.kind != wordName {
		return false
	}
	*into = r.next.text
	r.advance()
	return true
}

// names takes names in parentheses, at least one.
func (r *reader) names(into *[]string) bool {
	if !r.fixed("(") {
		return false
	}
	for {
		var s string
		if !r.name(&s) {
			return false
		}
		*into = append(*into, s)
		if !r.fixed(",") {
			return r.fixed(")")
		}
	}
}

func (r *reader) play(p *api.Play) bool {
	for r.fixed("proc") {
		var q api.Proc
		if !r.name(&q.Key) || !r.names(&q.Params) || !r.block(&q.Body) {
			return false
		}
		p.Procs = append(p.Procs, q)
	}
	return r.fixed("main") && r.block(&p.Main)
}

func (r *reader) block(into *[]api.Step) bool {
	if !r.fixed("{") {
		return false
	}
	for !r.fixed("}") {
		var s api.Step
		if !r.step(&s) {
			return false
		}
		*into = append(*into, s)
	}
	return true
}

func (r *reader) step(s *api.Step) bool {
	if r.fixed("if") {
		return r.choice(s)
	}
	var first string
	if !r.name(&first) {
		return false
	}
	switch {
	case r.fixed("."):
		s.Role = first
		return r.sendOrSet(s) && r.fixed(";")
	case r.fixed("->"):
		s.Kind, s.Role = api.StepTell, first
		return r.name(&s.To) && r.fixed("[") && r.name(&s.Label) && r.fixed("]") && r.fixed(";")
	}
	s.Kind, s.Proc = api.StepCall, first
	return r.names(&s.Args) && r.fixed(";")
}

// choice takes a StepIf behind its first word.
func (r *reader) choice(s *api.Step) bool {
	s.Kind = api.StepIf
	return r.name(&s.Role) && r.fixed(".") && r.expr(&s.Expr) && r.block(&s.Then) && r.fixed("else") && r.block(&s.Else)
}

// sendOrSet takes what follows the first point of a StepSend or a StepSet.
func (r *reader) sendOrSet(s *api.Step) bool {
	if r.isSet() {
		s.Kind = api.StepSet
		return r.name(&s.Var) && r.fixed(":=") && r.expr(&s.Expr)
	}
	s.Kind = api.StepSend
	return r.expr(&s.Expr) && r.fixed("->") && r.name(&s.To) && r.fixed(".") && r.name(&s.Var)
}

// isSet looks one word further than the next one, because both kinds of steps can go on with a name.
func (r *reader) isSet() bool {
	if r.next.kind != wordName {
		return false
	}
	further := *r
	further.advance()
	return further.next.text == ":="
}
