package weave

import "promptbook/api"

// none stands where there is no event.
const none = -1

// lane is the way of letters from a role to another one.
type lane struct{ from, to string }

// sent is the lane on which an event puts a letter, if it is one.
func sent(e api.Event) (lane, bool) {
	return lane{e.Role, e.With}, e.Kind == api.ActSend || e.Kind == api.ActTell
}

// got is the lane from which an event takes a letter, if it does.
func got(e api.Event) (lane, bool) {
	return lane{e.With, e.Role}, e.Kind == api.ActTake || e.Kind == api.ActOffer
}

// taken are for each event the letter that it takes, or none.
func taken(l []api.Event) ([]int, api.Errno) {
	out := make([]int, len(l))
	waiting := map[lane][]int{}
	for e, event := range l {
		out[e] = none
		if way, is := sent(event); is {
			waiting[way] = append(waiting[way], e)
		}
		if way, is := got(event); is {
			letters := waiting[way]
			if len(letters) == 0 {
				return nil, api.ErrNone
			}
			if err := checkPartners(l[letters[0]], event); err != api.OK {
				return nil, err
			}
			out[e], waiting[way] = letters[0], letters[1:]
		}
	}
	return out, api.OK
}

// checkPartners says whether an event can take a letter.
func checkPartners(letter, event api.Event) api.Errno {
	switch {
	case (letter.Kind == api.ActSend) != (event.Kind == api.ActTake):
		return api.ErrType
	case letter.Value != event.Value, letter.Kind == api.ActTell && letter.Name != event.Name:
		return api.ErrConflict
	}
	return api.OK
}
