package run_test

import (
	"strings"
	"testing"

	"promptbook/api"
	"promptbook/run"
)

func TestStoresText(t *testing.T) { // P4.6
	for _, c := range [][2]string{
		{"", ""}, {"a.x=1", "a x 1\n"}, {"a.x=7 b.y=8", "a x 7\nb y 8\n"}, {"a.x=1 a.y=999 b.a=10 b.x_0=2", "a x 1\na y 999\nb a 10\nb x_0 2\n"},
	} {
		text, err := run.StoresText(stores(c[0]))
		same(t, c[0], []any{text, err}, []any{c[1], api.OK})
		s, line, err := run.ReadStores(c[1])
		same(t, c[1], []any{s, line, err}, []any{stores(c[0]), 0, api.OK})
	}
}

func TestReadStoresErrors(t *testing.T) { // P4.6
	for _, c := range []struct {
		text string
		line int
		want api.Errno
	}{
		// forms
		{"a x 1", 0, api.ErrSyntax}, {"a x 1\nb y 2", 1, api.ErrSyntax}, {"\n", 0, api.ErrSyntax}, {"a x 1\n\n", 1, api.ErrSyntax}, {"a x 1\n\nb y 2\n", 1, api.ErrSyntax}, {" ", 0, api.ErrSyntax}, {"   \n", 0, api.ErrSyntax},
		{"a x\n", 0, api.ErrSyntax}, {"a\n", 0, api.ErrSyntax}, {"a x 1 2\n", 0, api.ErrSyntax}, {"a  x 1\n", 0, api.ErrSyntax}, {" a x 1\n", 0, api.ErrSyntax}, {"a x 1 \n", 0, api.ErrSyntax}, {"a  1\n", 0, api.ErrSyntax}, {"a x  1\n", 0, api.ErrSyntax}, {"a x \n", 0, api.ErrSyntax},
		{"a x 1\nb y\nc\n", 1, api.ErrSyntax}, {"a x 1\nb y 2\nc z", 2, api.ErrSyntax},
		// numbers
		{"a x y\n", 0, api.ErrSyntax}, {"a x 01\n", 0, api.ErrSyntax}, {"a x 00\n", 0, api.ErrSyntax}, {"a x -0\n", 0, api.ErrSyntax}, {"a x +1\n", 0, api.ErrSyntax}, {"a x 1.0\n", 0, api.ErrSyntax}, {"a x 1e2\n", 0, api.ErrSyntax}, {"a x 1_0\n", 0, api.ErrSyntax}, {"a x 0x1\n", 0, api.ErrSyntax}, {"a x -\n", 0, api.ErrSyntax}, {"a x --1\n", 0, api.ErrSyntax}, {"a x -01\n", 0, api.ErrSyntax}, {"a x 1\r\n", 0, api.ErrSyntax}, {"a x 1\t\n", 0, api.ErrSyntax}, {"a x ١\n", 0, api.ErrSyntax},
		{"a x 999999999999999\n", 0, api.ErrArg}, {"a x 1000000000000000\n", 0, api.ErrSyntax}, {"a x -999999999999999\n", 0, api.ErrArg}, {"a x -1000000000000000\n", 0, api.ErrSyntax}, {"a x 99999999999999999999999\n", 0, api.ErrSyntax}, {"a x 9223372036854775807\n", 0, api.ErrSyntax},
		// what is wrong with the stores
		{"a x 0\n", 0, api.ErrArg}, {"a x -1\n", 0, api.ErrArg}, {"a x 1000\n", 0, api.ErrArg}, {"A x 1\n", 0, api.ErrName}, {"a X 1\n", 0, api.ErrName}, {"if x 1\n", 0, api.ErrName}, {"a \t 1\n", 0, api.ErrName}, {"a\tx x 1\n", 0, api.ErrName}, {"\x00 x 1\n", 0, api.ErrName}, {"\xff x 1\n", 0, api.ErrName},
		{"a y 1\na x 1\n", 0, api.ErrOrder}, {"a x 1\na x 1\n", 0, api.ErrOrder}, {"b x 1\na x 1\n", 0, api.ErrOrder}, {"a x 1\nb x 1\na y 1\n", 0, api.ErrOrder},
		// the form of all comes first
		{"A x 1\nb y\n", 1, api.ErrSyntax}, {"b x 1\na x 1000\nc", 2, api.ErrSyntax},
	} {
		s, line, err := run.ReadStores(c.text)
		same(t, c.text, []any{s, line, err}, []any{[]api.Store{}, c.line, c.want})
	}
}

func TestLargeStoresTexts(t *testing.T) { // P4.6
	full := []api.Store{{Role: "a", Vars: manySlots(api.MaxSlots)}}
	text, err := run.StoresText(full)
	same(t, "MaxSlots", err, api.OK)
	s, line, err := run.ReadStores(text)
	same(t, "MaxSlots", []any{s, line, err}, []any{full, 0, api.OK})
	s, line, err = run.ReadStores(text + "a v999999 1\n")
	same(t, "more slots", []any{s, line, err}, []any{[]api.Store{}, 0, api.ErrLarge})
	var b strings.Builder
	for _, one := range manyStores(api.MaxRoles + 1) {
		b.WriteString(one.Role + " x 1\n")
	}
	s, line, err = run.ReadStores(b.String())
	same(t, "more roles", []any{s, line, err}, []any{[]api.Store{}, 0, api.ErrLarge})

}

func TestGreatestStoresText(t *testing.T) { // P4.6
	var l []api.Store // 16,666 lines of 12 bytes
	for i, left := 0, 16_666; left > 0; i++ {
		v := manySlots(min(left, api.MaxSlots))
		for k := range v {
			v[k].Value = 1
		}
		l = append(l, api.Store{Role: string(rune('a' + i)), Vars: v})
		left -= len(v)
	}
	for k := range 4 {
		l[0].Vars[k].Value = 100
	}
	text, err := run.StoresText(l)
	same(t, "MaxText bytes", []any{len(text), err}, []any{api.MaxText, api.OK})
	s, line, err := run.ReadStores(text)
	same(t, "MaxText bytes", []any{s, line, err}, []any{l, 0, api.OK})
	l[0].Vars[4].Value = 10
	text, err = run.StoresText(l)
	same(t, "a byte more", []any{text, err}, []any{"", api.ErrLarge})
	checkTooLong(t, func(text string) []any {
		s, line, err := run.ReadStores(text)
		return []any{s, line, err}
	})
}

// checkTooLong reads texts with more than MaxText bytes, and one that has just so many.
func checkTooLong(t *testing.T, read func(text string) []any) {
	t.Helper()
	same(t, "blanks", read(strings.Repeat(" ", api.MaxText)), []any{"[]", 0, api.ErrSyntax})
	same(t, "a blank more", read(strings.Repeat(" ", api.MaxText+1)), []any{"[]", 0, api.ErrLarge})
	same(t, "a line more", read("a x\n"+strings.Repeat("\n", api.MaxText)), []any{"[]", 0, api.ErrLarge})
}

func TestEventsText(t *testing.T) { // P4.6
	all := events("a set x 7; a send b 8; b take a y 8; b if 0; b if 1; b tell a l; a offer b l; b set z 0; b send a 999; a take b x_1 10")
	want := "a set x 7\na send b 8\nb take a y 8\nb if 0\nb if 1\nb tell a l\na offer b l\nb set z 0\nb send a 999\na take b x_1 10\n"
	text, err := run.EventsText(all)
	same(t, "all kinds", []any{text, err}, []any{want, api.OK})
	l, line, err := run.ReadEvents(want)
	same(t, "all kinds", []any{l, line, err}, []any{all, 0, api.OK})
	text, err = run.EventsText(nil)
	same(t, "nothing", []any{text, err}, []any{"", api.OK})
	l, line, err = run.ReadEvents("")
	same(t, "nothing", []any{l, line, err}, []any{[]api.Event{}, 0, api.OK})
	for _, s := range []string{"take send send 5\n", "send take set take 5\n", "set set take 1\n", "take if 1\n", "offer offer tell send\n", "send if 1\n"} {
		l, _, err := run.ReadEvents(s)
		back, _ := run.EventsText(l)
		same(t, s, []any{back, err}, []any{s, api.OK})
	}
}

func TestGreatestEventsText(t *testing.T) { // P4.6
	var l []api.Event // 28,571 lines of 7 bytes
	for range 28_571 {
		l = append(l, api.Event{Role: "a", Kind: api.ActIf, Value: 1})
	}
	l[7].Role = "abcd"
	text, err := run.EventsText(l)
	same(t, "MaxText bytes", []any{len(text), err}, []any{api.MaxText, api.OK})
	back, line, err := run.ReadEvents(text)
	same(t, "MaxText bytes", []any{back, line, err}, []any{l, 0, api.OK})
	l[7].Role = "abcde"
	text, err = run.EventsText(l)
	same(t, "a byte more", []any{text, err}, []any{"", api.ErrLarge})
	checkTooLong(t, func(text string) []any {
		l, line, err := run.ReadEvents(text)
		return []any{l, line, err}
	})
}

func TestTextsOfRandom(t *testing.T) { // P4.6, Z10: what is written is read, and nothing else
	d := &dice{10}
	for range 2000 {
		l, s := d.events(), d.stores([]string{"a", "b", "c"})
		text, err := run.EventsText(l)
		back, line, readErr := run.ReadEvents(text)
		same(t, text, []any{back, line, err, readErr}, []any{l, 0, api.OK, api.OK})
		storesText, err := run.StoresText(s)
		backStores, line, readErr := run.ReadStores(storesText)
		same(t, storesText, []any{backStores, line, err, readErr}, []any{s, 0, api.OK, api.OK})
		changed := d.spoilt(text)
		if back, _, err := run.ReadEvents(changed); err == api.OK {
			again, _ := run.EventsText(back)
			same(t, "the only text of its events", again, changed)
		}
		changed = d.spoilt(storesText)
		if back, _, err := run.ReadStores(changed); err == api.OK {
			again, _ := run.StoresText(back)
			same(t, "the only text of its stores", again, changed)
		}
	}
}

// spoilt has a byte more, or another one.
func (d *dice) spoilt(text string) string {
	i := d.roll(len(text) + 1)
	end := min(len(text), i+d.roll(2))
	return text[:i] + d.pick(" ", "\n", "0", "1", "-", "a", "x") + text[end:]
}

func TestReadEventsErrors(t *testing.T) { // P4.6
	for _, c := range []struct {
		text string
		line int
		want api.Errno
	}{
		{"a if 1", 0, api.ErrSyntax}, {"a if 1\na if 0", 1, api.ErrSyntax}, {"\n", 0, api.ErrSyntax}, {"a if 1\n\na if 1\n", 1, api.ErrSyntax}, {" \n", 0, api.ErrSyntax}, {"a\n", 0, api.ErrSyntax}, {" a if 1\n", 0, api.ErrSyntax}, {"a if 1 \n", 0, api.ErrSyntax}, {"a  if 1\n", 0, api.ErrSyntax}, {"a if  1\n", 0, api.ErrSyntax},
		// kinds
		{"a call b\n", 0, api.ErrSyntax}, {"a call p 1\n", 0, api.ErrSyntax}, {"a If 1\n", 0, api.ErrSyntax}, {"a x 1\n", 0, api.ErrSyntax}, {"if a 1\n", 0, api.ErrSyntax}, {"a sends b 1\n", 0, api.ErrSyntax}, {"a send\tb 1\n", 0, api.ErrSyntax},
		// how many words
		{"a if\n", 0, api.ErrSyntax}, {"a if x 1\n", 0, api.ErrSyntax}, {"a send b\n", 0, api.ErrSyntax}, {"a send b x 1\n", 0, api.ErrSyntax}, {"a take b x\n", 0, api.ErrSyntax}, {"a take b 1\n", 0, api.ErrSyntax}, {"a take b x 1 2\n", 0, api.ErrSyntax}, {"a tell b\n", 0, api.ErrSyntax}, {"a tell b l 0\n", 0, api.ErrSyntax}, {"a offer b\n", 0, api.ErrSyntax}, {"a offer b l 0\n", 0, api.ErrSyntax}, {"a set x\n", 0, api.ErrSyntax}, {"a set b x 1\n", 0, api.ErrSyntax},
		// numbers
		{"a if x\n", 0, api.ErrSyntax}, {"a if 01\n", 0, api.ErrSyntax}, {"a if -0\n", 0, api.ErrSyntax}, {"a send b +1\n", 0, api.ErrSyntax}, {"a take b x 1000000000000000\n", 0, api.ErrSyntax}, {"a set x -1000000000000000\n", 0, api.ErrSyntax}, {"a set x 999999999999999\n", 0, api.ErrArg}, {"a set x -999999999999999\n", 0, api.ErrArg},
		// what is wrong with the events
		{"a if 2\n", 0, api.ErrArg}, {"a if -1\n", 0, api.ErrArg}, {"a send b 1000\n", 0, api.ErrArg}, {"a send a 1\n", 0, api.ErrTwice}, {"A if 1\n", 0, api.ErrName}, {"if if 1\n", 0, api.ErrName}, {"a send B 1\n", 0, api.ErrName}, {"a set 1 1\n", 0, api.ErrName}, {"a tell b else\n", 0, api.ErrName}, {"a take b \xff 1\n", 0, api.ErrName},
		// the form of all comes first
		{"a if 2\nb\n", 1, api.ErrSyntax}, {"A if 1\na if 1\nb set x y\n", 2, api.ErrSyntax},
	} {
		l, line, err := run.ReadEvents(c.text)
		same(t, c.text, []any{l, line, err}, []any{[]api.Event{}, c.line, c.want})
	}
}
