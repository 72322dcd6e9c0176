package part_test

import (
	"fmt"
	"slices"
	"strings"
	"testing"

	"promptbook/api"
	"promptbook/part"
	"promptbook/raw"
	"promptbook/script"
)

// rich has an act of each kind, in Main and in a Local.
const rich = `part b {
	take a x; set y x; tell c l; send a x + 1;
	offer a { l { call p 1 (a, b, c); } m { } }
	if x { call p 0 (b, a, c); } else { set z 1; }
}
local p 1 (x, y, z) { take x v; offer z { l { send x v; } } if v { tell z m; } else { } set v 2; call p 1 (z, y, x); }
local p 0 (x, y, z) { call q 0 (x); }
local q 0 (x) { set v v; }`

// refused is what check finds out about rich when something in it has been changed.
func refused(t *testing.T, what string, want api.Errno, by func(p *api.Part)) {
	t.Helper()
	p := read(t, rich)
	by(&p)
	if got := part.CheckPart(p); got != want {
		t.Errorf("%s: got %d, want %d", what, got, want)
	}
}

func TestCheckPart(t *testing.T) { // P6.1
	for s, want := range map[string]api.Errno{
		rich: api.OK, example: api.OK, "part b { }": api.OK, "part b { } local p 0 (b, a) { } local p 1 (b, a) { } local q 1 (a, b) { }": api.OK,
		"part b { } local p 0 (b) { } local p 1 (a, b) { }": api.ErrConflict, "part b { } local p 0 (b, a) { } local p 0 (a, b) { }": api.ErrTwice,
	} {
		_, line, err := part.Read(laid(s))
		same(t, s, []any{line, err}, []any{0, want})
	}
}

func TestCheckLocals(t *testing.T) { // P6.1
	local := func(i int) api.Local {
		return api.Local{Key: fmt.Sprint("k", i), Params: []string{"x"}}
	}
	roles := func(n int) []string {
		var l []string
		for i := range n {
			l = append(l, fmt.Sprint("r", i))
		}
		return l
	}
	for what, c := range map[string]struct {
		want api.Errno
		by   func(p *api.Part)
	}{
		"Role":            {api.ErrName, func(p *api.Part) { p.Role = "B"; p.Locals = make([]api.Local, 601) }},
		"empty Role":      {api.ErrName, func(p *api.Part) { p.Role = "" }},
		"reserved Role":   {api.ErrName, func(p *api.Part) { p.Role = "main" }},
		"601 Locals":      {api.ErrLarge, func(p *api.Part) { p.Locals = make([]api.Local, api.MaxLocals+1) }},
		"600 bad Locals":  {api.ErrName, func(p *api.Part) { p.Locals = make([]api.Local, api.MaxLocals) }},
		"Key":             {api.ErrName, func(p *api.Part) { p.Locals[0].Key = "_"; p.Locals[0].Params = nil }},
		"no Params":       {api.ErrNone, func(p *api.Part) { p.Locals[0].Params = nil; p.Locals[0].Index = -1 }},
		"13 Params":       {api.ErrLarge, func(p *api.Part) { p.Locals[2].Params = make([]string, api.MaxRoles+1) }},
		"12 bad Params":   {api.ErrName, func(p *api.Part) { p.Locals[2].Params = make([]string, api.MaxRoles) }},
		"12 Params":       {api.ErrForm, func(p *api.Part) { p.Locals[2].Params = roles(api.MaxRoles) }}, // of the call
		"Param":           {api.ErrName, func(p *api.Part) { p.Locals[0].Params = []string{"x", "if", "x"} }},
		"Param twice":     {api.ErrTwice, func(p *api.Part) { p.Locals[0].Params = []string{"x", "x", "if"}; p.Locals[0].Index = 3 }},
		"Index 3":         {api.ErrArg, func(p *api.Part) { p.Locals[0].Index = 3 }},
		"Index -1":        {api.ErrArg, func(p *api.Part) { p.Locals[2].Index = -1 }},
		"Index before":    {api.ErrArg, func(p *api.Part) { p.Locals[1].Index = 3; p.Locals[1].Params = []string{"x"} }},
		"Local twice":     {api.ErrTwice, func(p *api.Part) { p.Locals[1].Index = 1; p.Locals[1].Params = []string{"z", "y"} }},
		"other Params":    {api.ErrConflict, func(p *api.Part) { p.Locals[1].Params = []string{"x", "z", "y"} }},
		"fewer Params":    {api.ErrConflict, func(p *api.Part) { p.Locals[1].Params = []string{"x", "y"} }},
		"later Conflict":  {api.ErrName, func(p *api.Part) { p.Locals[1].Params = []string{"Z"} }},
		"before the acts": {api.ErrTwice, func(p *api.Part) { p.Locals[2] = p.Locals[0]; p.Main[0].Kind = 0 }},
		"many Locals": {api.OK, func(p *api.Part) {
			for i := len(p.Locals); i < api.MaxLocals; i++ {
				p.Locals = append(p.Locals, local(i))
			}
		}},
	} {
		refused(t, what, c.want, c.by)
	}
}

func TestCheckActs(t *testing.T) { // P6.1
	for what, c := range map[string]struct {
		want api.Errno
		by   func(p *api.Part)
	}{
		"Kind 0":             {api.ErrKind, func(p *api.Part) { p.Main[0].Kind = 0 }},
		"Kind 8":             {api.ErrKind, func(p *api.Part) { p.Main[0].Kind = api.ActCall + 1; p.Main[0].With = "" }},
		"With":               {api.ErrName, func(p *api.Part) { p.Main[0].With = "A" }},
		"no With":            {api.ErrName, func(p *api.Part) { p.Main[4].With = "" }},
		"Var":                {api.ErrName, func(p *api.Part) { p.Main[0].Var = "" }},
		"Var of a set":       {api.ErrName, func(p *api.Part) { p.Main[1].Var = "else"; p.Main[1].Expr.Op = 0 }},
		"Label":              {api.ErrName, func(p *api.Part) { p.Main[2].Label = "L"; p.Main[2].With = "b" }},
		"Proc":               {api.ErrName, func(p *api.Part) { p.Locals[1].Body[0].Proc = "" }},
		"Expr":               {api.ErrArg, func(p *api.Part) { p.Main[1].Expr = number(1000) }},
		"no Expr":            {api.ErrKind, func(p *api.Part) { p.Main[5].Expr = api.Expr{} }},
		"Expr before With":   {api.ErrKind, func(p *api.Part) { p.Main[3].Expr.Op = 77; p.Main[3].With = "b" }},
		"with itself":        {api.ErrTwice, func(p *api.Part) { p.Main[0].With = "b" }},
		"offered by itself":  {api.ErrTwice, func(p *api.Part) { p.Main[4].With = "b"; p.Main[4].Offers = nil }},
		"with any one":       {api.OK, func(p *api.Part) { p.Main[0].With = "zzz" }},
		"Param with itself":  {api.ErrTwice, func(p *api.Part) { p.Locals[0].Body[0].With = "y" }},
		"with no Param":      {api.ErrRule, func(p *api.Part) { p.Locals[0].Body[0].With = "a" }},
		"with the Role":      {api.ErrRule, func(p *api.Part) { p.Locals[0].Body[0].With = "b" }},
		"offer of no Param":  {api.ErrRule, func(p *api.Part) { p.Locals[0].Body[1].With = "c"; p.Locals[0].Body[1].Offers = nil }},
		"within an offer":    {api.ErrRule, func(p *api.Part) { p.Locals[0].Body[1].Offers[0].Body[0].With = "c" }},
		"within Then":        {api.ErrRule, func(p *api.Part) { p.Locals[0].Body[2].Then[0].With = "c" }},
		"no Offers":          {api.ErrNone, func(p *api.Part) { p.Main[4].Offers = nil }},
		"101 Offers":         {api.ErrLarge, func(p *api.Part) { p.Main[4].Offers = make([]api.Offer, api.MaxOffers+1) }},
		"100 bad Offers":     {api.ErrName, func(p *api.Part) { p.Main[4].Offers = make([]api.Offer, api.MaxOffers) }},
		"Offers twice":       {api.ErrOrder, func(p *api.Part) { p.Main[4].Offers[1].Label = "l" }},
		"Offers fall":        {api.ErrOrder, func(p *api.Part) { p.Main[4].Offers[0].Label = "mm"; p.Main[4].Offers[1].Body = make([]api.Act, 1) }},
		"Label then order":   {api.ErrName, func(p *api.Part) { p.Main[4].Offers[1].Label = "" }},
		"Offers before Body": {api.ErrOrder, func(p *api.Part) { p.Main[4].Offers[1].Label = "a"; p.Main[4].Offers[0].Body[0].Kind = 0 }},
		"no such Local":      {api.ErrNone, func(p *api.Part) { p.Locals[1].Body[0].Proc = "r" }},
		"no such Index":      {api.ErrNone, func(p *api.Part) { p.Locals[1].Body[0].Index = 1; p.Locals[1].Body[0].Args = nil }},
		"Index below 0":      {api.ErrNone, func(p *api.Part) { p.Locals[1].Body[0].Index = -1 }},
		"no Args":            {api.ErrForm, func(p *api.Part) { p.Locals[1].Body[0].Args = nil }},
		"more Args":          {api.ErrForm, func(p *api.Part) { p.Locals[1].Body[0].Args = []string{"x", "X"} }},
		"Arg":                {api.ErrName, func(p *api.Part) { p.Main[4].Offers[0].Body[0].Args = []string{"a", "B", "a"} }},
		"Arg twice":          {api.ErrTwice, func(p *api.Part) { p.Main[4].Offers[0].Body[0].Args = []string{"a", "a", "C"} }},
		"Arg is no Param":    {api.ErrRule, func(p *api.Part) { p.Locals[0].Body[4].Args = []string{"a", "y", "Z"} }},
		"not the own role":   {api.ErrRule, func(p *api.Part) { p.Main[5].Then[0].Args = []string{"a", "b", "c"} }},
		"not the own Param":  {api.ErrRule, func(p *api.Part) { p.Locals[0].Body[4].Args = []string{"y", "x", "z"} }},
		"own role is away":   {api.ErrRule, func(p *api.Part) { p.Main[5].Then[0].Args = []string{"d", "a", "c"} }},
		"any roles in Main":  {api.OK, func(p *api.Part) { p.Main[5].Then[0].Args = []string{"b", "zz", "c"} }},
		"first error in all": {api.ErrKind, func(p *api.Part) { p.Main[5].Else[0].Kind = 9; p.Locals[0].Body[0].With = "A" }},
		"Then before Else":   {api.ErrName, func(p *api.Part) { p.Main[5].Then[0].Proc = ""; p.Main[5].Else[0].Kind = 0 }},
		"an act before Then": {api.ErrArg, func(p *api.Part) { p.Main[5].Then[0].Proc = ""; p.Main[5].Expr = number(-1) }},
	} {
		refused(t, what, c.want, c.by)
	}
}

func TestCheckFields(t *testing.T) { // P6.1: fields that a kind does not use
	fields := []func(a *api.Act){
		func(a *api.Act) { a.With = "a" }, func(a *api.Act) { a.Var = "v" }, func(a *api.Act) { a.Label = "l" },
		func(a *api.Act) { a.Expr = number(1) }, func(a *api.Act) { a.Then = make([]api.Act, 1) }, func(a *api.Act) { a.Else = make([]api.Act, 1) },
		func(a *api.Act) { a.Offers = make([]api.Offer, 1) }, func(a *api.Act) { a.Proc = "q" }, func(a *api.Act) { a.Index = 1 }, func(a *api.Act) { a.Args = []string{"b"} },
	}
	uses := map[int]string{api.ActSend: "0 3", api.ActTake: "0 1", api.ActTell: "0 2", api.ActOffer: "0 6", api.ActSet: "1 3", api.ActIf: "3 4 5", api.ActCall: "7 8 9"}
	acts := all(read(t, rich).Main)
	for _, a := range acts {
		for i, set := range fields {
			b := a
			set(&b)
			p := read(t, rich)
			p.Main = []api.Act{b}
			used := strings.Contains(uses[a.Kind], fmt.Sprint(i))
			if got := part.CheckPart(p); (got == api.ErrForm) == used && !(a.Kind == api.ActCall && i >= 7) {
				t.Errorf("kind %d, field %d: got %d", a.Kind, i, got)
			}
		}
	}
	for _, e := range []api.Expr{{N: 1}, {Name: "x"}, {Args: make([]api.Expr, 1)}, {Op: 1}} {
		refused(t, fmt.Sprint("Expr of a take: ", e), api.ErrForm, func(p *api.Part) { p.Main[0].Expr = e; p.Main[0].With = "" })
	}
}

func TestCheckDepth(t *testing.T) { // P6.1
	nested := func(depth int, offers bool, last api.Act) []api.Act {
		l := []api.Act{last}
		for i := 1; i < depth; i++ {
			if offers {
				l = []api.Act{{Kind: api.ActOffer, With: "a", Offers: []api.Offer{{Label: "l", Body: l}}}}
			} else if i%2 == 0 {
				l = []api.Act{{Kind: api.ActIf, Expr: number(1), Then: l}}
			} else {
				l = []api.Act{{Kind: api.ActIf, Expr: number(1), Else: l}}
			}
		}
		return l
	}
	set := api.Act{Kind: api.ActSet, Var: "v", Expr: number(1)}
	for _, offers := range []bool{false, true} {
		for depth, want := range map[int]api.Errno{1: api.OK, 19: api.OK, api.MaxDepth: api.OK, api.MaxDepth + 1: api.ErrLarge, 30: api.ErrLarge} {
			main := api.Part{Role: "b", Main: nested(depth, offers, set)}
			same(t, fmt.Sprint("depth ", depth), part.CheckPart(main), want)
			if depth > api.MaxDepth {
				same(t, fmt.Sprint("large before kind ", depth), part.CheckPart(api.Part{Role: "b", Main: nested(depth, offers, api.Act{})}), want)
			}
			n, deep, err := part.Count(main)
			if want == api.OK && (n != depth || deep != depth || err != api.OK) {
				t.Errorf("count of %d: %d, %d, %d", depth, n, deep, err)
			}
			body := api.Part{Role: "b", Locals: []api.Local{{Key: "p", Params: []string{"x", "a"}, Body: nested(depth, offers, set)}}}
			same(t, fmt.Sprint("depth of a Local ", depth), part.CheckPart(body), want)
		}
	}
}

func TestCheckMany(t *testing.T) { // P6.1
	set := api.Act{Kind: api.ActSet, Var: "v", Expr: number(1)}
	many := func(n int) []api.Act { return slices.Repeat([]api.Act{set}, n) }
	local := api.Local{Key: "p", Params: []string{"x"}}
	for n, want := range map[int]api.Errno{api.MaxActs: api.OK, api.MaxActs + 1: api.ErrLarge} {
		p := api.Part{Role: "b", Main: many(n)}
		same(t, fmt.Sprint("in Main ", n), part.CheckPart(p), want)
		p = api.Part{Role: "b", Main: []api.Act{{Kind: api.ActIf, Expr: number(1), Then: many(1000), Else: many(n - 3001)}}, Locals: []api.Local{local}}
		p.Locals[0].Body = many(2000)
		same(t, fmt.Sprint("in all ", n), part.CheckPart(p), want)
		acts, depth, err := part.Count(p)
		if want == api.OK {
			same(t, "count", []any{acts, depth, err}, []any{n, 2, api.OK})
		}
		p.Locals[0].Body[1999].Kind = 0
		same(t, fmt.Sprint("all acts before their number ", n), part.CheckPart(p), api.ErrKind)
	}
	many200 := many(200_000)
	same(t, "many acts", part.CheckPart(api.Part{Role: "b", Main: many200}), api.ErrLarge)
}

func TestCount(t *testing.T) { // P6.1
	for s, want := range map[string][3]int{
		"part b { }": {}, example: {5, 2}, rich: {18, 2}, "part b { } local p 0 (x) { if 1 { if 1 { } else { } } else { set x 1; } }": {3, 2},
		"part b { offer a { l { } } }": {1, 1},
	} {
		n, depth, err := part.Count(read(t, s))
		same(t, "count of "+s, []any{n, depth, err}, []any{want[0], want[1], api.OK})
	}
	n, depth, err := part.Count(api.Part{})
	same(t, "no part", []any{n, depth, err}, []any{0, 0, api.ErrName})
}

// refusal is thrown as soon as something is wrong.
type refusal api.Errno

// checkLiterally is P6.1 word by word.
func checkLiterally(p api.Part) (err api.Errno) {
	defer func() {
		if r, ok := recover().(refusal); ok {
			err = api.Errno(r)
		}
	}()
	no := func(err api.Errno, when bool) {
		if when {
			panic(refusal(err))
		}
	}
	no(api.ErrName, !raw.IsName(p.Role))
	no(api.ErrLarge, len(p.Locals) > api.MaxLocals)
	for i, l := range p.Locals {
		no(api.ErrName, !raw.IsName(l.Key))
		no(api.ErrNone, len(l.Params) == 0)
		no(api.ErrLarge, len(l.Params) > api.MaxRoles)
		for k, s := range l.Params {
			no(api.ErrName, !raw.IsName(s))
			no(api.ErrTwice, slices.Contains(l.Params[:k], s))
		}
		no(api.ErrArg, l.Index < 0 || l.Index >= len(l.Params))
		for _, o := range p.Locals[:i] {
			no(api.ErrTwice, o.Key == l.Key && o.Index == l.Index)
		}
		for _, o := range p.Locals[:i] {
			no(api.ErrConflict, o.Key == l.Key && fmt.Sprint(o.Params) != fmt.Sprint(l.Params))
		}
	}
	n := 0
	checkActsLiterally(p, p.Main, p.Role, nil, 1, &n, no)
	for _, l := range p.Locals {
		checkActsLiterally(p, l.Body, l.Params[l.Index], l.Params, 1, &n, no)
	}
	no(api.ErrLarge, n > api.MaxActs)
	return api.OK
}

func checkActsLiterally(p api.Part, l []api.Act, own string, params []string, depth int, n *int, no func(err api.Errno, when bool)) {
	for _, a := range l {
		*n++
		no(api.ErrLarge, depth > api.MaxDepth)
		no(api.ErrKind, a.Kind < 1 || a.Kind > 7)
		zero := map[int]api.Act{
			api.ActSend: {Kind: a.Kind, With: a.With, Expr: a.Expr}, api.ActTake: {Kind: a.Kind, With: a.With, Var: a.Var}, api.ActTell: {Kind: a.Kind, With: a.With, Label: a.Label},
			api.ActOffer: {Kind: a.Kind, With: a.With, Offers: a.Offers}, api.ActSet: {Kind: a.Kind, Var: a.Var, Expr: a.Expr},
			api.ActIf: {Kind: a.Kind, Expr: a.Expr, Then: a.Then, Else: a.Else}, api.ActCall: {Kind: a.Kind, Proc: a.Proc, Index: a.Index, Args: a.Args},
		}
		no(api.ErrForm, fmt.Sprint(a, len(a.Args)) != fmt.Sprint(zero[a.Kind], len(zero[a.Kind].Args)))
		is := func(kinds ...int) bool { return slices.Contains(kinds, a.Kind) }
		deals := is(api.ActSend, api.ActTake, api.ActTell, api.ActOffer)
		no(api.ErrName, deals && !raw.IsName(a.With) || is(api.ActTake, api.ActSet) && !raw.IsName(a.Var) || is(api.ActTell) && !raw.IsName(a.Label) || is(api.ActCall) && !raw.IsName(a.Proc))
		if is(api.ActSend, api.ActSet, api.ActIf) {
			err := script.CheckExpr(a.Expr)
			no(err, err != api.OK)
		}
		no(api.ErrTwice, deals && a.With == own)
		no(api.ErrRule, deals && params != nil && !slices.Contains(params, a.With))
		if is(api.ActOffer) {
			no(api.ErrNone, len(a.Offers) == 0)
			no(api.ErrLarge, len(a.Offers) > api.MaxOffers)
			for i, o := range a.Offers {
				no(api.ErrName, !raw.IsName(o.Label))
				no(api.ErrOrder, i > 0 && o.Label <= a.Offers[i-1].Label)
			}
		}
		if is(api.ActCall) {
			i := localOf(p, a)
			no(api.ErrNone, i < 0)
			no(api.ErrForm, len(p.Locals[i].Params) != len(a.Args))
			for k, s := range a.Args {
				no(api.ErrName, !raw.IsName(s))
				no(api.ErrTwice, slices.Contains(a.Args[:k], s))
				no(api.ErrRule, params != nil && !slices.Contains(params, s))
			}
			no(api.ErrRule, a.Args[a.Index] != own)
		}
		for _, block := range lists(a) {
			checkActsLiterally(p, block, own, params, depth+1, n, no)
		}
	}
}

// broken is a part in which a field has another value.
func (d *dice) broken(p api.Part) api.Part {
	other := func(s *string) { *s = d.pick("", "a", "b", "c", "x", "Z", "if", "l", "p0", "p1") }
	names := func(l []string) []string {
		l = slices.Clone(l)
		if len(l) > 0 && d.roll(3) > 0 {
			other(&l[d.roll(len(l))])
			return l
		}
		return append(l, d.pick("a", "b", "", "y"))[d.roll(2):]
	}
	if n := len(p.Locals); n > 0 && d.roll(3) == 0 {
		p.Locals = slices.Clone(p.Locals)
		l := &p.Locals[d.roll(n)]
		switch d.roll(3) {
		case 0:
			other(&l.Key)
		case 1:
			l.Index += d.roll(3) - 1
		case 2:
			l.Params = names(l.Params)
		}
		return p
	}
	at, n := d.roll(len(allOf(p))+1), -1
	return changeOf(p, func(a api.Act) []api.Act {
		if n++; n != at {
			return []api.Act{a}
		}
		switch d.roll(9) {
		case 0:
			a.Kind = d.roll(10) - 1
		case 1, 2:
			other(&a.With)
		case 3:
			other(&a.Var)
		case 4:
			other(&a.Label)
		case 5:
			a.Expr.N += 1000
		case 6:
			other(&a.Proc)
		case 7:
			a.Index += d.roll(3) - 1
		case 8:
			a.Args = names(a.Args)
		}
		for i := range a.Offers {
			if d.roll(2) == 0 {
				other(&a.Offers[i].Label)
			}
		}
		return []api.Act{a}
	})
}

func TestCheckBrokenParts(t *testing.T) { // P6.1, Z4
	d := &dice{8}
	seen := map[api.Errno]int{}
	for range 6 * tries {
		p := d.part()
		for range 1 + d.roll(3) {
			p = d.broken(p)
		}
		got, want := part.CheckPart(p), checkLiterally(p)
		seen[got]++
		if got != want {
			t.Fatalf("%+v: got %d, want %d", p, got, want)
		}
	}
	for _, err := range []api.Errno{api.OK, api.ErrArg, api.ErrForm, api.ErrKind, api.ErrName, api.ErrTwice, api.ErrOrder, api.ErrNone, api.ErrConflict, api.ErrRule} {
		if seen[err] < 10 {
			t.Errorf("error %d is found %d times", err, seen[err])
		}
	}
}
