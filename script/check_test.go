package script_test

import (
	"fmt"
	"math"
	"strings"
	"testing"

	"promptbook/api"
	"promptbook/script"
)

// long is a name of MaxName bytes.
var long = strings.Repeat("a", api.MaxName)

var goodNames = []string{"a", "z", "a9_", "x_", "b0", "procs", "mains", "iff", "els", "elsee", long}

var badNames = []string{"", "A", "aB", "_", "_a", "1", "1a", "a-b", "a b", " a", "a ", "a.", "é", "aé", "a\n", "a\x00", "proc", "main", "if", "else", long + "a"}

// arities are how many Args each Op has.
var arities = map[int]int{api.OpNumber: 0, api.OpVar: 0, api.OpAdd: 2, api.OpSub: 2, api.OpMul: 2, api.OpLess: 2, api.OpSame: 2, api.OpNot: 1, api.OpWhen: 3}

func TestNames(t *testing.T) { // P1.1
	for _, s := range goodNames {
		same(t, s, script.CheckExpr(variable(s)), api.OK)
	}
	for _, s := range badNames {
		same(t, s, script.CheckExpr(variable(s)), api.ErrName)
	}
	for c := range 256 {
		s := string([]byte{byte(c)})
		first := 'a' <= c && c <= 'z'
		same(t, "first byte", script.CheckExpr(variable(s+"a")) == api.OK, first)
		same(t, "next byte", script.CheckExpr(variable("a"+s)) == api.OK, first || '0' <= c && c <= '9' || c == '_')
	}
}

func TestForms(t *testing.T) { // P1.1
	for k, n := range arities {
		for args := range 5 {
			e := api.Expr{Op: k}
			if k == api.OpVar {
				e.Name = "x"
			}
			for range args {
				e.Args = append(e.Args, number(1))
			}
			want := api.OK
			if args != n {
				want = api.ErrForm
			}
			same(t, fmt.Sprint("Args ", k, args), script.CheckExpr(e), want)
			if args == n && k != api.OpVar {
				e.Name = "x"
				same(t, fmt.Sprint("Name of ", k), script.CheckExpr(e), api.ErrForm)
				e.Name = ""
			}
			if args == n && k != api.OpNumber {
				for _, v := range []int{1, -1, math.MinInt, math.MaxInt} {
					e.N = v
					same(t, fmt.Sprint("N of ", k), script.CheckExpr(e), api.ErrForm)
				}
			}
		}
	}
	same(t, "an empty list", script.CheckExpr(api.Expr{Op: api.OpNumber, Args: []api.Expr{}}), api.OK)
}

func TestCheckExpr(t *testing.T) { // P1.1
	bad := api.Expr{Op: 10}
	for _, c := range []struct {
		what string
		e    api.Expr
		want api.Errno
	}{
		{"zero", api.Expr{}, api.ErrKind},
		{"below", api.Expr{Op: -1}, api.ErrKind},
		{"above", bad, api.ErrKind},
		{"least", api.Expr{Op: math.MinInt}, api.ErrKind},
		{"greatest", api.Expr{Op: math.MaxInt}, api.ErrKind},
		{"0", number(0), api.OK},
		{"MaxValue", number(api.MaxValue), api.OK},
		{"-1", number(-1), api.ErrArg},
		{"MaxValue + 1", number(api.MaxValue + 1), api.ErrArg},
		{"least N", number(math.MinInt), api.ErrArg},
		{"greatest N", number(math.MaxInt), api.ErrArg},
		{"MaxDepth", nots(api.MaxDepth, number(1)), api.OK},
		{"deeper", nots(api.MaxDepth+1, number(1)), api.ErrLarge},
		{"depth before kind", nots(api.MaxDepth+1, bad), api.ErrLarge},
		{"kind at MaxDepth", nots(api.MaxDepth, bad), api.ErrKind},
		{"depth of a third one", op(api.OpWhen, number(1), number(1), nots(api.MaxDepth, number(1))), api.ErrLarge},
		{"kind before form", api.Expr{Op: 0, N: 1, Name: "x"}, api.ErrKind},
		{"form before range", api.Expr{Op: api.OpNumber, N: -1, Name: "x"}, api.ErrForm},
		{"form before name", api.Expr{Op: api.OpVar, N: 1, Name: "X"}, api.ErrForm},
		{"itself before Args", op(api.OpNot, bad, bad), api.ErrForm},
		{"first one before second one", op(api.OpAdd, number(-1), variable("X")), api.ErrArg},
		{"second one", op(api.OpAdd, number(1), variable("X")), api.ErrName},
		{"within the first one before the second one", op(api.OpAdd, op(api.OpNot, variable("X")), number(-1)), api.ErrName},
		{"third one", op(api.OpWhen, number(1), number(2), op(api.OpNot)), api.ErrForm},
	} {
		same(t, c.what, script.CheckExpr(c.e), c.want)
	}
}

// checked are steps, and what CheckPlay finds in them.
var checked = []struct {
	what string
	s    api.Step
	want api.Errno
}{
	{"send", send("a", number(1), "b", "x"), api.OK},
	{"send to oneself", send("a", number(1), "a", "x"), api.OK},
	{"tell", tell("a", "b", "l"), api.OK},
	{"set", set("a", "x", variable("y")), api.OK},
	{"if", choice("a", number(1), nil, nil), api.OK},
	{"call", call("p", "a", "b", "a"), api.OK},
	{"nothing", api.Step{}, api.ErrKind},
	{"kind below", api.Step{Kind: -1}, api.ErrKind},
	{"kind above", api.Step{Kind: 6}, api.ErrKind},
	{"least kind", api.Step{Kind: math.MinInt}, api.ErrKind},
	{"greatest kind", api.Step{Kind: math.MaxInt}, api.ErrKind},
	{"kind before form", api.Step{Kind: 6, Role: "A"}, api.ErrKind},
	{"form before name", api.Step{Kind: api.StepTell, Role: "A", Var: "x"}, api.ErrForm},
	{"name before expr", send("A", number(-1), "b", "x"), api.ErrName},
	{"name before no Args", call("P"), api.ErrName},
	{"no Expr", send("a", api.Expr{}, "b", "x"), api.ErrKind},
	{"Expr of a send", send("a", number(-1), "b", "x"), api.ErrArg},
	{"Expr of a set", set("a", "x", op(api.OpNot)), api.ErrForm},
	{"Expr of an if", choice("a", variable("X"), nil, nil), api.ErrName},
	{"deep Expr", set("a", "x", nots(api.MaxDepth, number(1))), api.OK},
	{"deeper Expr", set("a", "x", nots(api.MaxDepth+1, number(1))), api.ErrLarge},
	{"no Args", call("p"), api.ErrNone},
	{"most Args", call("p", roles(api.MaxRoles)...), api.OK},
	{"more Args", call("p", roles(api.MaxRoles+1)...), api.ErrLarge},
	{"many before names", call("p", append(roles(api.MaxRoles), "A")...), api.ErrLarge},
	{"a wrong one of Args", call("p", "a", ""), api.ErrName},
}

func TestCheckSteps(t *testing.T) { // P1.2
	for _, c := range checked {
		same(t, c.what, script.CheckPlay(api.Play{Main: steps(c.s)}), c.want)
		inside := choice("a", number(1), nil, steps(tell("a", "b", "l"), c.s))
		same(t, c.what+" in Else", script.CheckPlay(api.Play{Main: steps(inside)}), c.want)
		proc := api.Proc{Key: "q", Params: []string{"a"}, Body: steps(choice("a", number(1), steps(c.s), nil))}
		same(t, c.what+" in a procedure", script.CheckPlay(api.Play{Procs: []api.Proc{proc}}), c.want)
	}
}

func TestUnusedFields(t *testing.T) { // P1.2, Z8, Z5
	used := map[int]string{
		api.StepSend: "role to var expr", api.StepTell: "role to label", api.StepSet: "role var expr",
		api.StepIf: "role expr then else", api.StepCall: "proc args",
	}
	fields := map[string]func(s *api.Step){
		"role":  func(s *api.Step) { s.Role = "r" },
		"to":    func(s *api.Step) { s.To = "r" },
		"var":   func(s *api.Step) { s.Var = "r" },
		"label": func(s *api.Step) { s.Label = "r" },
		"expr":  func(s *api.Step) { s.Expr = number(1) },
		"then":  func(s *api.Step) { s.Then = steps(tell("a", "b", "l")) },
		"else":  func(s *api.Step) { s.Else = steps(tell("a", "b", "l")) },
		"proc":  func(s *api.Step) { s.Proc = "r" },
		"args":  func(s *api.Step) { s.Args = []string{"r"} },
	}
	good := map[int]api.Step{}
	for _, c := range checked[:6] {
		good[c.s.Kind] = c.s
	}
	for kind, s := range good {
		for field, fill := range fields {
			filled := s
			fill(&filled)
			want := api.ErrForm
			if strings.Contains(" "+used[kind]+" ", " "+field+" ") {
				want = api.OK
			}
			same(t, fmt.Sprint(kind, field), script.CheckPlay(api.Play{Main: steps(filled)}), want)
		}
		if kind == api.StepTell || kind == api.StepCall {
			for _, e := range []api.Expr{{Op: 1}, {N: 1}, {Name: "x"}, {Args: []api.Expr{{}}}} {
				filled := s
				filled.Expr = e
				same(t, fmt.Sprint(kind, e), script.CheckPlay(api.Play{Main: steps(filled)}), api.ErrForm)
			}
		}
	}
	empty := tell("a", "b", "l")
	empty.Then, empty.Else, empty.Args, empty.Expr.Args = steps(), steps(), []string{}, []api.Expr{}
	same(t, "empty lists", script.CheckPlay(api.Play{Procs: []api.Proc{}, Main: []api.Step{empty}}), api.OK)
}

func TestNamesOfSteps(t *testing.T) { // P1.2
	try := func(what, s string, want api.Errno) {
		t.Helper()
		for i, x := range []api.Step{
			send(s, number(1), "b", "x"), send("a", number(1), s, "x"), send("a", number(1), "b", s),
			tell(s, "b", "l"), tell("a", s, "l"), tell("a", "b", s),
			set(s, "x", number(1)), set("a", s, number(1)), choice(s, number(1), nil, nil),
			call(s, "a"), call("p", s), call("p", "a", s),
		} {
			same(t, fmt.Sprintf("%q in step %d", s, i), script.CheckPlay(api.Play{Main: steps(x)}), want)
		}
		same(t, what+" Key", script.CheckPlay(api.Play{Procs: []api.Proc{{Key: s, Params: []string{"p"}}}}), want)
		same(t, what+" Params", script.CheckPlay(api.Play{Procs: []api.Proc{{Key: "p", Params: []string{"p", s}}}}), want)
	}
	for _, s := range goodNames {
		try("good", s, api.OK)
	}
	for _, s := range badNames {
		try("bad", s, api.ErrName)
	}
}

// procs are n procedures with a Body.
func procs(n int, body ...api.Step) []api.Proc {
	var l []api.Proc
	for _, key := range roles(n) {
		if len(key) > api.MaxName {
			key = strings.Repeat("y", len(key)-api.MaxName)
		}
		l = append(l, api.Proc{Key: key, Params: []string{"a"}, Body: body})
	}
	return l
}

func TestCheckPlay(t *testing.T) { // P1.2
	wrong := api.Step{Kind: 9}
	noName := tell("A", "b", "l")
	fine := tell("a", "b", "l")
	two := func(a, b api.Proc) []api.Proc { return []api.Proc{a, b} }
	proc := func(key string, params []string, body ...api.Step) api.Proc {
		return api.Proc{Key: key, Params: params, Body: body}
	}
	one := []string{"a"}
	for _, c := range []struct {
		what string
		p    api.Play
		want api.Errno
	}{
		{"empty", api.Play{}, api.OK},
		{"MaxProcs", api.Play{Procs: procs(api.MaxProcs)}, api.OK},
		{"more procedures", api.Play{Procs: procs(api.MaxProcs + 1)}, api.ErrLarge},
		{"number of procedures first", api.Play{Procs: make([]api.Proc, api.MaxProcs+1)}, api.ErrLarge},
		{"same keys", api.Play{Procs: two(proc("p", one), proc("p", one))}, api.ErrTwice},
		{"key twice before no Params", api.Play{Procs: two(proc("p", one), proc("p", nil))}, api.ErrTwice},
		{"no name before no Params", api.Play{Procs: two(proc("P", nil), proc("p", one))}, api.ErrName},
		{"no Params", api.Play{Procs: two(proc("p", one), proc("q", nil))}, api.ErrNone},
		{"no Params before Body", api.Play{Procs: two(proc("p", nil, wrong), proc("p", one))}, api.ErrNone},
		{"most Params", api.Play{Procs: two(proc("p", roles(api.MaxRoles)), proc("q", one))}, api.OK},
		{"more Params", api.Play{Procs: two(proc("p", append(roles(api.MaxRoles), "A")), proc("q", one))}, api.ErrLarge},
		{"equal Params", api.Play{Procs: two(proc("p", []string{"a", "b", "a"}), proc("q", one))}, api.ErrTwice},
		{"Params in order", api.Play{Procs: two(proc("p", []string{"a", "a", "A"}), proc("q", one))}, api.ErrTwice},
		{"Params in order", api.Play{Procs: two(proc("p", []string{"a", "A", "a"}), proc("q", one))}, api.ErrName},
		{"Params before Body", api.Play{Procs: two(proc("p", []string{"a", "a"}, wrong), proc("q", one))}, api.ErrTwice},
		{"Body before the next procedure", api.Play{Procs: two(proc("p", one, wrong), proc("p", one))}, api.ErrKind},
		{"procedures before Main", api.Play{Procs: two(proc("p", one), proc("q", one, wrong)), Main: steps(noName)}, api.ErrKind},
		{"Main", api.Play{Procs: procs(2, fine), Main: steps(fine, noName, wrong)}, api.ErrName},
		{"a step before its Then", api.Play{Main: steps(choice("A", number(1), steps(wrong), nil))}, api.ErrName},
		{"Then before Else", api.Play{Main: steps(choice("a", number(1), steps(noName), steps(wrong)))}, api.ErrName},
		{"Else before the next step", api.Play{Main: steps(choice("a", number(1), nil, steps(wrong)), noName)}, api.ErrKind},
		{"MaxDepth", api.Play{Main: choices(api.MaxDepth, fine)}, api.OK},
		{"deeper", api.Play{Main: choices(api.MaxDepth+1, fine)}, api.ErrLarge},
		{"MaxDepth in a procedure", api.Play{Procs: procs(1, choices(api.MaxDepth, fine)...)}, api.OK},
		{"deeper in a procedure", api.Play{Procs: procs(1, choices(api.MaxDepth+1, fine)...)}, api.ErrLarge},
		{"depth before kind", api.Play{Main: choices(api.MaxDepth+1, wrong)}, api.ErrLarge},
		{"kind at MaxDepth", api.Play{Main: choices(api.MaxDepth, wrong)}, api.ErrKind},
		{"MaxDepth in Else", api.Play{Main: steps(choice("a", number(1), nil, choices(api.MaxDepth-1, fine)))}, api.OK},
		{"depth in Else", api.Play{Main: steps(choice("a", number(1), nil, choices(api.MaxDepth, fine)))}, api.ErrLarge},
		{"MaxSteps", api.Play{Main: many(api.MaxSteps, fine)}, api.OK},
		{"more steps", api.Play{Main: many(api.MaxSteps+1, fine)}, api.ErrLarge},
		{"steps in all", api.Play{Procs: procs(1, many(1000, fine)...), Main: append(many(999, fine), choice("a", number(1), nil, nil))}, api.OK},
		{"more steps in all", api.Play{Procs: procs(1, many(1000, fine)...), Main: append(many(999, fine), choice("a", number(1), steps(fine), nil))}, api.ErrLarge},
		{"number of steps last", api.Play{Main: append(many(api.MaxSteps+1, fine), noName)}, api.ErrName},
		{"a Proc that is not there", api.Play{Main: steps(call("p", "a"))}, api.OK},
	} {
		same(t, c.what, script.CheckPlay(c.p), c.want)
	}
}

func TestFirstErrors(t *testing.T) { // P1.2: all functions first return these errors; Z3: the rest is zero
	for _, p := range []api.Play{
		{Procs: make([]api.Proc, api.MaxProcs+1)}, {Main: steps(api.Step{})}, {Main: many(api.MaxSteps+1, tell("a", "b", "l"))},
		{Procs: []api.Proc{{Key: "p"}}}, {Procs: []api.Proc{{Key: "P"}}}, {Main: steps(tell("a", "b", "l"), set("a", "x", number(-1)))},
		{Main: steps(api.Step{Kind: api.StepTell, Proc: "x"})}, {Procs: append(procs(1), procs(1)...)},
	} {
		want := script.CheckPlay(p)
		if want == api.OK {
			t.Fatal("not a wrong play:", p)
		}
		s, err := script.Text(p)
		same(t, "Text", []any{s, err}, []any{"", want})
		r, err := script.Roles(p)
		same(t, "Roles", []any{len(r), err}, []any{0, want})
		n, d, err := script.Count(p)
		same(t, "Count", []any{n, d, err}, []any{0, 0, want})
		for _, k := range []int{-1, 0, 1, 5000} {
			n, err = script.Line(p, k)
			same(t, "Line", []any{n, err}, []any{0, want})
			q, err := script.Without(p, k)
			same(t, "Without", []any{len(q.Procs), len(q.Main), err}, []any{0, 0, want})
		}
	}
	for _, e := range []api.Expr{{}, number(-1), variable("if"), op(api.OpNot), nots(21, number(1))} {
		s, err := script.ExprText(e)
		same(t, "ExprText", []any{s, err}, []any{"", script.CheckExpr(e)})
		if err == api.OK {
			t.Error("not a wrong expression:", e)
		}
	}
}
