package lines_test

import (
	"fmt"
	"strings"
	"testing"

	"promptbook/api"
	"promptbook/lines"
)

func TestWrite(t *testing.T) { // P4.6
	text, err := lines.Write([][]string{{"a", "x", "1"}, {"b"}})
	if text != "a x 1\nb\n" || err != api.OK {
		t.Errorf("got %q, error %d", text, err)
	}
	long := strings.Repeat("x", api.MaxText-2)
	text, err = lines.Write([][]string{{"a"}, {long}})
	if text != "" || err != api.ErrLarge {
		t.Errorf("a byte more: got %d bytes, error %d", len(text), err)
	}
	text, err = lines.Write([][]string{{"a"}, {long[1:]}})
	if len(text) != api.MaxText || err != api.OK {
		t.Errorf("MaxText: got %d bytes, error %d", len(text), err)
	}
}

func TestRead(t *testing.T) { // P4.6, Z9
	for _, c := range []struct {
		text, seen string
		line       int
		err        api.Errno
	}{
		{"", "", 0, api.OK},
		{"a x 1\nb\n", "[a x 1][b]", 0, api.OK},
		{"a\tx \r 1\n", "[a\tx \r 1]", 0, api.OK},
		{"a\nno\nb\n", "[a][no]", 1, api.ErrSyntax},
		{"a\nb", "[a]", 1, api.ErrSyntax},
		{"a\n\nb\n", "[a]", 1, api.ErrSyntax},
		{"a  b\n", "", 0, api.ErrSyntax},
		{" a\n", "", 0, api.ErrSyntax},
		{"a \n", "", 0, api.ErrSyntax},
		{strings.Repeat("\n", api.MaxText), "", 0, api.ErrSyntax},
		{strings.Repeat("\n", api.MaxText+1), "", 0, api.ErrLarge},
	} {
		seen := ""
		line, err := lines.Read(c.text, func(words []string) bool {
			seen += fmt.Sprint(words)
			return words[0] != "no"
		})
		if seen != c.seen || line != c.line || err != c.err {
			t.Errorf("%.20q: got %q, line %d, error %d", c.text, seen, line, err)
		}
	}
}

func TestNumber(t *testing.T) { // Z10
	for word, want := range map[string]int{"0": 0, "7": 7, "10": 10, "999": 999, "-1": -1, "-999": -999} {
		if n, ok := lines.Number(word, 3); n != want || !ok {
			t.Errorf("%q: got %d, %v", word, n, ok)
		}
	}
	for _, word := range []string{"", "-", "-0", "+1", "00", "01", "-01", "1000", "-1000", "1.0", "1_0", "0x1", " 1", "1 ", "x", "١", "99999999999999999999"} {
		if n, ok := lines.Number(word, 3); n != 0 || ok {
			t.Errorf("%q: got %d, %v", word, n, ok)
		}
	}
}
