package part_test

import (
	"fmt"
	"regexp"
	"slices"
	"strconv"
	"strings"
	"testing"

	"promptbook/api"
	"promptbook/part"
	"promptbook/script"
)

func TestText(t *testing.T) { // P6.2
	want := `part b {
  take a x;
  set y x + 0 * 2;
  if x == x {
    send a (y < 1) + 1;
  } else {
    if !x {
    } else {
    }
    tell a no;
  }
  offer a {
    again {
      call p 1 (a, b);
    }
    stop {
    }
  }
}
local p 1 (x, y) {
  take x v;
}
local q 0 (b) {
}
`
	p, line, err := part.Read(want)
	same(t, "line and error", []any{line, err}, []any{0, api.OK})
	same(t, "text", text(t, p), want)
	same(t, "main", p.Main[2].Else[1], api.Act{Kind: api.ActTell, With: "a", Label: "no"})
	same(t, "call", p.Main[3].Offers[0], api.Offer{Label: "again", Body: []api.Act{{Kind: api.ActCall, Proc: "p", Index: 1, Args: []string{"a", "b"}}}})
	same(t, "locals", p.Locals, []api.Local{{Key: "p", Index: 1, Params: []string{"x", "y"}, Body: []api.Act{{Kind: api.ActTake, With: "x", Var: "v"}}}, {Key: "q", Params: []string{"b"}}})
	s, err := part.Text(api.Part{Role: "b"})
	same(t, "nothing", []any{s, err}, []any{"part b {\n}\n", api.OK})
	s, err = part.Text(api.Part{Role: "B"})
	same(t, "no name", []any{s, err}, []any{"", api.ErrName})
}

// sized is a part whose text has so many bytes.
func sized(bytes int) api.Part {
	p := api.Part{Role: "b"}
	left := bytes - len("part b {\n}\n")
	add := func(long int) {
		p.Main = append(p.Main, api.Act{Kind: api.ActTake, With: strings.Repeat("a", 40), Var: strings.Repeat("v", long)})
		left -= 50 + long
	}
	for left > 3*90 {
		add(40)
	}
	for n := 3; n > 0; n-- {
		add((left - 50*n) / n)
	}
	return p
}

func TestTextBounds(t *testing.T) { // P6.2
	for bytes, want := range map[int]api.Errno{api.MaxText - 1: api.OK, api.MaxText: api.OK, api.MaxText + 1: api.ErrLarge, api.MaxText + 5000: api.ErrLarge} {
		p := sized(bytes)
		if n := len(textLiterally(p)); n != bytes {
			t.Fatalf("%d bytes, not %d", n, bytes)
		}
		s, err := part.Text(p)
		same(t, fmt.Sprint("text of ", bytes), err, want)
		if err != api.OK {
			same(t, "text", s, "")
		}
		q, line, err := part.Read(textLiterally(p))
		same(t, fmt.Sprint("read ", bytes), []any{line, err}, []any{0, want})
		if err == api.OK {
			same(t, "what is read", q, p)
		} else {
			same(t, "what is not read", q, api.Part{})
		}
	}
	_, line, err := part.Read(strings.Repeat("?", api.MaxText+1))
	same(t, "large before syntax", []any{line, err}, []any{0, api.ErrLarge})
	deep := name("x")
	for range 12 { // 4,096 variables
		deep = api.Expr{Op: api.OpAdd, Args: []api.Expr{deep, deep}}
	}
	var l []api.Act
	for range 20 {
		l = append(l, api.Act{Kind: api.ActSet, Var: "x", Expr: deep})
	}
	s, err := part.Text(api.Part{Role: "b", Main: l})
	same(t, "large expressions", []any{s, err}, []any{"", api.ErrLarge})
	for range 6 {
		deep = api.Expr{Op: api.OpAdd, Args: []api.Expr{deep, deep}}
	}
	s, err = part.Text(api.Part{Role: "b", Main: []api.Act{{Kind: api.ActSet, Var: "x", Expr: deep}}})
	same(t, "a large expression", []any{s, err}, []any{"", api.ErrLarge})
}

func TestReadWrongLines(t *testing.T) { // P6.2
	for s, want := range map[string]int{
		"": 0, "\n": 0, " ": 0, "part b {": 0, "part b {\n": 1, "part b {\n}": 1, "part b {\n}\n\n": 2, "part b {\n}\n}\n": 2, "part b {\n}\nlocal": 2,
		" part b {\n}\n": 0, "part b  {\n}\n": 0, "part  b {\n}\n": 0, "part b{\n}\n": 0, "part b { \n}\n": 0, "part {\n}\n": 0, "part B {\n}\n": 0, "part a b {\n}\n": 0, "Part b {\n}\n": 0,
		"part b {\r\n}\r\n": 0, "part b {\n }\n": 1, "part b {\n} \n": 1, "part b {\n\n}\n": 1, "part b {\n}\npart b {\n}\n": 2,
		"part b {\ntake a x;\n}\n": 1, "part b {\n take a x;\n}\n": 1, "part b {\n   take a x;\n}\n": 1, "part b {\n\ttake a x;\n}\n": 1,
		"part b {\n  take a x;": 1, "part b {\n  take a x;\n": 2, "part b {\n  take a x;\n  }\n": 2,
		"part b {\n  if x {\n  }\n}\n": 2, "part b {\n  if x {\n  } else {\n}\n": 3, "part b {\n  if x {\n  } else {\n  } else {\n  }\n}\n": 3, "part b {\n  if x {\n  }else {\n  }\n}\n": 2,
		"part b {\n  } else {\n  }\n}\n": 1, "part b {\n  if x {\n  take a x;\n  } else {\n  }\n}\n": 2,
		"part b {\n  offer a {\n  take a x;\n  }\n}\n": 2, "part b {\n  offer a {\n    l {\n  }\n}\n": 3, "part b {\n  offer a {\n    l;\n  }\n}\n": 2, "part b {\n  offer a {\n    l m {\n    }\n  }\n}\n": 2,
		"part b {\n  offer a {\n    l {\n    }\n}\n": 4, "part b {\n  offer a {\n     {\n    }\n  }\n}\n": 2, "part b {\n  offer a {\n    take a x;\n  }\n}\n": 2,
		"part b {\n}\nlocal p 0 (x) {\n": 3, "part b {\n}\nlocal p 0 (x) {\n}": 3, "part b {\n}\n  local p 0 (x) {\n}\n": 2,
	} {
		p, line, err := part.Read(s)
		same(t, fmt.Sprintf("%q", s), []any{p, line, err}, []any{api.Part{}, want, api.ErrSyntax})
	}
}

func TestReadActs(t *testing.T) { // P6.2: lines with a single wrong word
	good := []string{"send a 1;", "take a x;", "tell a l;", "set x !y;", "call p 0 (b);", "send a x ? 1 : y;"}
	wrong := []string{
		"send a;", "send a ;", "send a  1;", "send a 1 ;", "send a 1", "send a 1;;", "send a (1);", "send a 1+1;", "send a 01;", "send a 1000;", "send a x #;", "send a if;", "send a X;", "send a\tx;", "send a 1 < 2 < 3;",
		"take a;", "take a x y;", "take a x ;", "take a  x;", "take  a x;", "take a X;", "take a x,;", "take a-b x;", "take a é;", "take a x {",
		"tell a;", "tell a l m;", "tell a L;", "set x;", "set x ;", "set x = 1;", "set X 1;", "set x 1 {", "setx 1;", "Set x 1;", "sett x 1;", "give a 1;", ";", "send;", "send ;",
		"call p 0 ();", "call p 0 (b ,c);", "call p 0 (b,c);", "call p 0 (b, );", "call p 0 (, b);", "call p 0 (b,  c);", "call p 0(b);", "call p  (b);", "call p (b);", "call p 00 (b);", "call p -0 (b);", "call p +1 (b);", "call p 1000000000 (b);", "call p -1000000000 (b);", "call p x (b);", "call p 0 b;", "call p 0 (b;", "call p 0 b);", "call p 0 (b) ;", "call p 0 (B);", "call P 0 (b);", "call p 0;", "call p 0 (b) {", "call p 1.0 (b);", "call p 99999999999999999999 (b);",
		"if x;", "if {", "if  {", "if x  {", "if x{", "if (x) {", "if x { ", "offer {", "offer a b {", "offer A {", "offer a;", "offer a{", "}", "} else {", "l {", "part b {", "local p 0 (x) {", "",
	}
	for _, s := range good {
		_, line, err := part.Read("part b {\n  take a x;\n  " + s + "\n}\nlocal p 0 (b) {\n}\n")
		same(t, s, []any{line, err}, []any{0, api.OK})
	}
	for _, s := range wrong {
		_, line, err := part.Read("part b {\n  take a x;\n  " + s + "\n}\n")
		same(t, s, []any{line, err}, []any{2, api.ErrSyntax})
	}
	for _, s := range []string{
		"local p 0 () {", "local p 0 (x){", "local p 0 (x, ) {", "local p 0 (x,y) {", "local p 0 x {", "local p (x) {", "local p 0 {", "local p {", "local {", "local p 00 (x) {", "local p -0 (x) {", "local p 1000000000 (x) {", "local P 0 (x) {", "local p 0 (X) {", "local  p 0 (x) {", "local p 0  (x) {", "local p 0 (x) ;", "local p 0 (x) { ", "locals p 0 (x) {", "call p 0 (x) {",
	} {
		_, line, err := part.Read("part b {\n}\n" + s + "\n}\n")
		same(t, s, []any{line, err}, []any{2, api.ErrSyntax})
	}
}

func TestReadWhatIsWrong(t *testing.T) { // P6.2: what can stand there, but is wrong
	long := strings.Repeat("a", 41)
	for s, want := range map[string]api.Errno{
		"part 9 { }": api.ErrName, "part if { }": api.ErrName, "part " + long + " { }": api.ErrName, "part _ { }": api.ErrName,
		"part b { send b 1; }": api.ErrTwice, "part b { send main 1; }": api.ErrName, "part b { set 1 1; }": api.ErrName, "part b { take a else; }": api.ErrName, "part b { tell a 0; }": api.ErrName,
		"part b { offer a { } }": api.ErrNone, "part b { offer a { m { } l { } } }": api.ErrOrder, "part b { offer a { if { } } }": api.ErrName, "part b { offer a { else { } } }": api.ErrName,
		"part b { call p 0 (b); }": api.ErrNone, "part b { call p -1 (b); }": api.ErrNone, "part b { call p 999999999 (b); }": api.ErrNone,
		"part b { } local p 1 (x) { }": api.ErrArg, "part b { } local p -1 (x) { }": api.ErrArg, "part b { } local p -999999999 (x) { }": api.ErrArg, "part b { } local p 999999999 (x) { }": api.ErrArg,
		"part b { } local main 0 (x) { }": api.ErrName, "part b { } local p 0 (x, x) { }": api.ErrTwice, "part b { } local p 0 (a, b, c, d, e, f, g, h, i, j, k, l, m) { }": api.ErrLarge,
		"part b { " + strings.Repeat("if 1 { ", 20) + "set x 1; " + strings.Repeat("} else { } ", 20) + "}": api.ErrLarge,
		"part b { " + strings.Repeat("set x 1; ", api.MaxActs+1) + "}":                                      api.ErrLarge,
		"part b { " + strings.Repeat("set x 1; ", api.MaxActs) + "}":                                        api.OK,
	} {
		_, line, err := part.Read(laid(s))
		same(t, s, []any{line, err}, []any{0, want})
	}
	deep := strings.Repeat("!", api.MaxDepth) + "x" // one more than is allowed, so that it cannot be read
	_, line, err := part.Read("part b {\n  set x " + deep + ";\n}\n")
	same(t, "deep expression", []any{line, err}, []any{1, api.ErrSyntax})
	_, line, err = part.Read("part b {\n  set x " + deep[1:] + ";\n}\n")
	same(t, "less deep expression", []any{line, err}, []any{0, api.OK})
	deepest := "part b {\n"
	for i := range 400 {
		deepest += strings.Repeat("  ", i+1) + "if 1 {\n"
	}
	_, line, err = part.Read(deepest)
	same(t, "deep acts", []any{line, err}, []any{401, api.ErrSyntax})
}

// block is one in which lines stand: whether these are offers, and whether it is a Then.
type block struct{ offers, then bool }

const (
	aWord   = `[a-z0-9_]+`
	aRoles  = `\(` + aWord + `(, ` + aWord + `)*\)`
	aNumber = `(0|-?[1-9][0-9]{0,8})`
)

// The lines that can stand somewhere, without the blanks before them.
var (
	plainLine  = regexp.MustCompile(`^(send ` + aWord + ` (.+);|take ` + aWord + ` ` + aWord + `;|tell ` + aWord + ` ` + aWord + `;|set ` + aWord + ` (.+);|call ` + aWord + ` ` + aNumber + ` ` + aRoles + `;)$`)
	choiceLine = regexp.MustCompile(`^if (.*) \{$`)
	offerLine  = regexp.MustCompile(`^offer ` + aWord + ` \{$`)
	labelLine  = regexp.MustCompile(`^` + aWord + ` \{$`)
	partLine   = regexp.MustCompile(`^part ` + aWord + ` \{$`)
	localLine  = regexp.MustCompile(`^local ` + aWord + ` ` + aNumber + ` ` + aRoles + ` \{$`)
)

// firstWrong is the number of the first line that cannot stand at its place, and whether there is one. It keeps the blocks in which a line stands in a list, and knows lines by patterns.
func firstWrong(s string) (int, bool) {
	isExpr := func(s string) bool {
		e, _, err := script.ReadExpr(s)
		again, _ := script.ExprText(e)
		return err == api.OK && again == s
	}
	l := strings.SplitAfter(s, "\n")
	if l[len(l)-1] == "" {
		l = l[:len(l)-1]
	}
	var within []block
	for i, line := range l {
		if !strings.HasSuffix(line, "\n") {
			return i, true
		}
		line = line[:len(line)-1]
		n := len(within)
		before := len(line) - len(strings.TrimLeft(line, " "))
		line = line[before:]
		switch m := plainLine.FindStringSubmatch(line); {
		case i == 0 && before == 0 && partLine.MatchString(line), i > 0 && n == 0 && before == 0 && localLine.MatchString(line):
			within = append(within, block{})
		case n > 0 && before == 2*n-2 && line == "} else {" && within[n-1].then:
			within[n-1].then = false
		case n > 0 && before == 2*n-2 && line == "}" && !within[n-1].then:
			within = within[:n-1]
		case n == 0 || before != 2*n:
			return i, true
		case within[n-1].offers && labelLine.MatchString(line):
			within = append(within, block{})
		case within[n-1].offers:
			return i, true
		case m != nil && (m[2]+m[3] == "" || isExpr(m[2]+m[3])):
		case offerLine.MatchString(line):
			within = append(within, block{offers: true})
		case choiceLine.MatchString(line) && isExpr(choiceLine.FindStringSubmatch(line)[1]):
			within = append(within, block{then: true})
		default:
			return i, true
		}
	}
	return len(l), len(within) > 0 || len(l) == 0
}

// scratched is a text with some other bytes, or lines.
func (d *dice) scratched(s string) string {
	at := d.roll(len(s))
	l := strings.SplitAfter(s, "\n")
	i := d.roll(len(l))
	switch d.roll(6) {
	case 0:
		return s[:at] + d.pick(" ", "\n", "x", "{", "}", ";", "0", "-", ",", "(", "#", "X") + s[at+d.roll(2):]
	case 1:
		return s[:at] + s[at+1:]
	case 2:
		return strings.Join(slices.Delete(l, i, i+1), "")
	case 3:
		return strings.Join(slices.Insert(l, i, l[d.roll(len(l))]), "")
	case 4:
		k := d.roll(len(l))
		l[i], l[k] = l[k], l[i]
		return strings.Join(l, "")
	}
	word := d.pick("if", "x", "1000", "(a)", "0", "send", "a, b", "")
	words := strings.Split(s, " ")
	words[d.roll(len(words))] = word
	return strings.Join(words, " ")
}

func TestReadScratchedTexts(t *testing.T) { // P6.2, Z10
	d := &dice{9}
	seen := map[string]int{}
	for range 6 * tries {
		s := textLiterally(d.part())
		for range d.roll(3) {
			s = d.scratched(s + "\n")
			s = strings.TrimSuffix(s, "\n")
		}
		p, line, err := part.Read(s)
		want, wrong := firstWrong(s)
		switch {
		case wrong != (err == api.ErrSyntax), wrong && line != want, !wrong && line != 0:
			t.Fatalf("%q: line %d, error %d, want line %d, %v", s, line, err, want, wrong)
		case err == api.OK && textLiterally(p) != s:
			t.Fatalf("%q is read, but has not this text", s)
		}
		seen[strconv.FormatBool(err == api.OK)+strconv.FormatBool(wrong)]++
	}
	for _, s := range []string{"truefalse", "falsetrue", "falsefalse"} {
		if seen[s] < tries/20 {
			t.Errorf("seen: %v", seen)
		}
	}
}
