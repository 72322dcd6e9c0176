package part

import (
	"strconv"
	"strings"

	"promptbook/api"
	"promptbook/script"
)

// The lines in which something ends.
const (
	blockEnd = "}"
	thenEnd  = "} else {"
)

// indent stands once for each block before a line.
const indent = "  "

// scribe writes a text, and stops as soon as it is too large.
type scribe struct {
	text  strings.Builder
	large bool
}

func (w *scribe) line(depth int, s string) {
	if w.large || w.text.Len()+depth*len(indent)+len(s)+1 > api.MaxText {
		w.large = true
		return
	}
	for range depth {
		w.text.WriteString(indent)
	}
	w.text.WriteString(s)
	w.text.WriteByte('\n')
}

// block writes a list of acts, and the line behind it.
func (w *scribe) block(l []api.Act, depth int, end string) {
	for _, a := range l {
		if w.large {
			return
		}
		w.act(a, depth+1)
	}
	w.line(depth, end)
}

func (w *scribe) part(p api.Part) {
	w.line(0, "part "+p.Role+" {")
	w.block(p.Main, 0, blockEnd)
	for _, l := range p.Locals {
		w.line(0, "local "+l.Key+" "+strconv.Itoa(l.Index)+" "+rolesText(l.Params)+" {")
		w.block(l.Body, 0, blockEnd)
	}
}

func (w *scribe) act(a api.Act, depth int) {
	switch head := w.head(a); a.Kind {
	case api.ActIf:
		w.line(depth, head+" {")
		w.block(a.Then, depth, thenEnd)
		w.block(a.Else, depth, blockEnd)
	case api.ActOffer:
		w.line(depth, head+" {")
		for _, o := range a.Offers {
			w.line(depth+1, o.Label+" {")
			w.block(o.Body, depth+1, blockEnd)
		}
		w.line(depth, blockEnd)
	default:
		w.line(depth, head+";")
	}
}

// head is what stands in an act's line up to its semicolon, or its block.
func (w *scribe) head(a api.Act) string {
	f, _ := formOf(a.Kind)
	words := []string{f.word}
	for _, x := range f.fields {
		switch x {
		case fieldBranches, fieldOffers:
		case fieldExpr:
			text, err := script.ExprText(a.Expr)
			if err != api.OK {
				w.large = true
			}
			words = append(words, text)
		case fieldIndex:
			words = append(words, strconv.Itoa(a.Index))
		case fieldArgs:
			words = append(words, rolesText(a.Args))
		default:
			words = append(words, *nameIn(&a, x))
		}
	}
	return strings.Join(words, " ")
}

func rolesText(roles []string) string {
	return "(" + strings.Join(roles, ", ") + ")"
}
