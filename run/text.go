package run

import (
	"strconv"

	"promptbook/api"
	"promptbook/lines"
)

// maxDigits is how many digits the numbers of texts can have.
const maxDigits = 15

// readAll reads a list: take adds to it what the words of a line say, and check is what it has to pass at last.
func readAll[T any](text string, take func(words []string, into *[]T) bool, check func(l []T) api.Errno) ([]T, int, api.Errno) {
	var l []T
	line, err := lines.Read(text, func(words []string) bool { return take(words, &l) })
	if err == api.OK {
		err = check(l)
	}
	if err != api.OK {
		return nil, line, err
	}
	return l, 0, api.OK
}

// storesWords are the words of each line.
func storesWords(s []api.Store) [][]string {
	var all [][]string
	for _, one := range s {
		for _, v := range one.Vars {
			all = append(all, []string{one.Role, v.Name, strconv.Itoa(v.Value)})
		}
	}
	return all
}

// readSlot takes the words of a variable into stores.
func readSlot(words []string, into *[]api.Store) bool {
	if len(words) != 3 {
		return false
	}
	value, ok := lines.Number(words[2], maxDigits)
	*into = withSlot(*into, words[0], api.Slot{Name: words[1], Value: value})
	return ok
}

// eventsWords are the words of each line.
func eventsWords(l []api.Event) [][]string {
	var all [][]string
	for _, e := range l {
		all = append(all, eventWords(e))
	}
	return all
}

// fields are those of an event that its form has, in the order of its text; value stands for its Value.
func (f form) fields(e *api.Event, value *string) []*string {
	var l []*string
	if f.with {
		l = append(l, &e.With)
	}
	if f.name {
		l = append(l, &e.Name)
	}
	if f.value {
		l = append(l, value)
	}
	return l
}

func eventWords(e api.Event) []string {
	f, _ := formOf(e.Kind)
	words := []string{e.Role, f.word}
	value := strconv.Itoa(e.Value)
	for _, field := range f.fields(&e, &value) {
		words = append(words, *field)
	}
	return words
}

// readEvent takes the words of an event into a list.
func readEvent(words []string, into *[]api.Event) bool {
	if len(words) < 2 {
		return false
	}
	f, ok := formNamed(words[1])
	e, value := api.Event{Role: words[0], Kind: f.kind}, "0"
	fields := f.fields(&e, &value)
	if !ok || len(words) != 2+len(fields) {
		return false
	}
	for i, field := range fields {
		*field = words[2+i]
	}
	e.Value, ok = lines.Number(value, maxDigits)
	*into = append(*into, e)
	return ok
}
