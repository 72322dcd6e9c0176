package run

import (
	"promptbook/api"
	"promptbook/raw"
)

// form is what the events of a kind have, and the word for the kind in texts.
type form struct {
	kind              int
	word              string
	with, name, value bool
}

var forms = []form{
	{kind: api.ActSend, word: "send", with: true, value: true},
	{kind: api.ActTake, word: "take", with: true, name: true, value: true},
	{kind: api.ActTell, word: "tell", with: true, name: true},
	{kind: api.ActOffer, word: "offer", with: true, name: true},
	{kind: api.ActSet, word: "set", name: true, value: true},
	{kind: api.ActIf, word: "if", value: true},
}

// formWhere is the form for which is holds, if there is one.
func formWhere(is func(f form) bool) (form, bool) {
	for _, f := range forms {
		if is(f) {
			return f, true
		}
	}
	return form{}, false
}

func formOf(kind int) (form, bool) {
	return formWhere(func(f form) bool { return f.kind == kind })
}

// checkEvent checks an event by itself.
func checkEvent(e api.Event) api.Errno {
	f, ok := formOf(e.Kind)
	switch {
	case !raw.IsName(e.Role):
		return api.ErrName
	case !ok:
		return api.ErrKind
	case !f.with && e.With != "", !f.name && e.Name != "", !f.value && e.Value != 0:
		return api.ErrForm
	case f.with && !raw.IsName(e.With), f.name && !raw.IsName(e.Name):
		return api.ErrName
	case e.With == e.Role:
		return api.ErrTwice
	case !raw.IsValue(e.Value), e.Kind == api.ActIf && e.Value > 1:
		return api.ErrArg
	}
	return api.OK
}

// byRole are the events of each role, in their order.
func byRole(l []api.Event) map[string][]api.Event {
	out := map[string][]api.Event{}
	for _, e := range l {
		out[e.Role] = append(out[e.Role], e)
	}
	return out
}
