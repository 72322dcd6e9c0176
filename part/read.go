package part

import (
	"strings"

	"promptbook/api"
	"promptbook/lines"
	"promptbook/raw"
	"promptbook/script"
)

// indexDigits is how many digits a number can have in a text.
const indexDigits = 9

// reader goes through a text line by line. Where no line can stand that it asks for it stays.
type reader struct {
	lines []string // those that are ended
	more  bool     // behind them stands a line that is not
	at    int
}

func newReader(text string) *reader {
	l := strings.Split(text, "\n")
	last := len(l) - 1
	return &reader{lines: l[:last], more: l[last] != ""}
}

// line is the next line without the blanks that belong before it; it is empty, as none that can stand in a text is, if there is none, or these blanks are not there.
func (r *reader) line(depth int) string {
	if r.at == len(r.lines) {
		return ""
	}
	s, ok := strings.CutPrefix(r.lines[r.at], strings.Repeat(indent, depth))
	if !ok {
		return ""
	}
	return s
}

// pass goes behind the next line if it is this one.
func (r *reader) pass(depth int, want string) bool {
	if r.line(depth) != want {
		return false
	}
	r.at++
	return true
}

// part reads a part up to the end of the text.
func (r *reader) part() (p api.Part, ok bool) {
	p.Role, ok = r.begin(0, "part ")
	if !ok {
		return p, false
	}
	if p.Main, ok = r.block(0, blockEnd); !ok {
		return p, false
	}
	for r.at < len(r.lines) || r.more {
		l, ok := r.local()
		if !ok {
			return p, false
		}
		p.Locals = append(p.Locals, l)
	}
	return p, true
}

// begin reads a line that begins a block, and has a single word.
func (r *reader) begin(depth int, before string) (string, bool) {
	word, ok := r.between(depth, before, " {")
	if !ok || !isWord(word) {
		return "", false
	}
	r.at++
	return word, true
}

// between is what stands in the next line between two parts of it.
func (r *reader) between(depth int, before, behind string) (string, bool) {
	s, begun := strings.CutPrefix(r.line(depth), before)
	s, ended := strings.CutSuffix(s, behind)
	return s, begun && ended
}

func (r *reader) local() (l api.Local, ok bool) {
	s, ok := r.between(0, "local ", " {")
	words := strings.SplitN(s, " ", 3)
	if !ok || len(words) < 3 || !isWord(words[0]) {
		return l, false
	}
	l.Key = words[0]
	if l.Index, ok = lines.Number(words[1], indexDigits); !ok {
		return l, false
	}
	if l.Params, ok = readRoles(words[2]); !ok {
		return l, false
	}
	r.at++
	l.Body, ok = r.block(0, blockEnd)
	return l, ok
}

// block reads a list of acts, and the line behind it.
func (r *reader) block(depth int, end string) ([]api.Act, bool) {
	var l []api.Act
	for !r.pass(depth, end) {
		a, ok := r.act(depth + 1)
		if !ok {
			return nil, false
		}
		l = append(l, a)
	}
	return l, true
}

func (r *reader) act(depth int) (a api.Act, ok bool) {
	word, rest, _ := strings.Cut(r.line(depth), " ")
	f, ok := formNamed(word)
	if !ok {
		return a, false
	}
	end := ";"
	if f.hasBlocks() {
		end = " {"
	}
	rest, ok = strings.CutSuffix(rest, end)
	if !ok || !f.read(&a, rest) {
		return a, false
	}
	r.at++
	switch a.Kind {
	case api.ActIf:
		ok = r.branches(&a, depth)
	case api.ActOffer:
		ok = r.offers(&a, depth)
	}
	return a, ok
}

func (r *reader) branches(a *api.Act, depth int) (ok bool) {
	if a.Then, ok = r.block(depth, thenEnd); ok {
		a.Else, ok = r.block(depth, blockEnd)
	}
	return ok
}

func (r *reader) offers(a *api.Act, depth int) bool {
	for !r.pass(depth, blockEnd) {
		label, ok := r.begin(depth+1, "")
		if !ok {
			return false
		}
		body, ok := r.block(depth+1, blockEnd)
		if !ok {
			return false
		}
		a.Offers = append(a.Offers, api.Offer{Label: label, Body: body})
	}
	return true
}

// read puts into an act what stands behind its word, if this has its form.
func (f form) read(a *api.Act, s string) bool {
	a.Kind = f.kind
	inLine := len(f.fields)
	if f.hasBlocks() {
		inLine--
	}
	words := strings.SplitN(s, " ", inLine)
	if len(words) < inLine {
		return false
	}
	for i, word := range words {
		if !readField(a, f.fields[i], word) {
			return false
		}
	}
	return true
}

func readField(a *api.Act, x field, word string) (ok bool) {
	switch x {
	case fieldExpr:
		a.Expr, ok = readExpr(word)
	case fieldIndex:
		a.Index, ok = lines.Number(word, indexDigits)
	case fieldArgs:
		a.Args, ok = readRoles(word)
	default:
		*nameIn(a, x), ok = word, isWord(word)
	}
	return ok
}

// readExpr reads an expression in the only way in which it is written.
func readExpr(s string) (api.Expr, bool) {
	e, _, err := script.ReadExpr(s)
	if err != api.OK {
		return e, false
	}
	text, err := script.ExprText(e)
	return e, err == api.OK && text == s
}

func readRoles(s string) ([]string, bool) {
	s, begun := strings.CutPrefix(s, "(")
	s, ended := strings.CutSuffix(s, ")")
	roles := strings.Split(s, ", ")
	for _, role := range roles {
		if !isWord(role) {
			return nil, false
		}
	}
	return roles, begun && ended
}

// isWord says whether a word has the bytes of names only, and at least one; whether it is a name is asked for later.
func isWord(s string) bool {
	for i := range len(s) {
		if !raw.IsSmall(s[i]) && !raw.IsDigit(s[i]) && s[i] != '_' {
			return false
		}
	}
	return s != ""
}
