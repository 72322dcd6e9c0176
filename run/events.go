package run

import (
	"promptbook/api"
	"promptbook/raw"
)

// form is what the events of a kind have, and the word for the kind in texts.
type form struct {
	kind              int
	word              string
	with, name, value bool
}

// formOf is the form of events of a kind, if there are any.
func formOf(kind int) (form, bool) {
	switch kind {
	case api.ActSend:
		return form{kind: kind, word: "send", with: true, value: true}, true
	case api.ActTake:
		return form{kind: kind, word: "take", with: true, name: true, value: true}, true
	case api.ActTell:
		return form{kind: kind, word: "tell", with: true, name: true}, true
	case api.ActOffer:
		return form{kind: kind, word: "offer", with: true, name: true}, true
	case api.ActSet:
		return form{kind: kind, word: "set", name: true, value: true}, true
	case api.ActIf:
		return form{kind: kind, word: "if", value: true}, true
	}
	return form{}, false
}

// formNamed is the form with a word, if there is one.
func formNamed(word string) (form, bool) {
	for kind := api.ActSend; kind <= api.ActIf; kind++ {
		if f, _ := formOf(kind); f.word == word {
			return f, true
		}
	}
	return form{}, false
}

// checkEvent checks an event by itself.
func checkEvent(e api.Event) api.Errno {
	f, ok := formOf(e.Kind)
	switch {
	case !raw.IsName(e.Role):
		return api.ErrName
	case !ok:
		return api.ErrKind
	case !f.with && e.With != "", !f.name && e.Name != "", !f.value && e.Value != 0:
		return api.ErrForm
	case f.with && !raw.IsName(e.With), f.name && !raw.IsName(e.Name):
		return api.ErrName
	case e.With == e.Role:
		return api.ErrTwice
	case !raw.IsValue(e.Value), e.Kind == api.ActIf && e.Value > 1:
		return api.ErrArg
	}
	return api.OK
}

// byRole are the events of each role, in their order.
func byRole(l []api.Event) map[string][]api.Event {
	out := map[string][]api.Event{}
	for _, e := range l {
		out[e.Role] = append(out[e.Role], e)
	}
	return out
}
