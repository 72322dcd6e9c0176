package net_test

import (
	"fmt"
	"slices"
	"testing"

	"promptbook/api"
	"promptbook/net"
)

// tries is how many random networks a test looks at.
const tries = 800

func TestRandomOrders(t *testing.T) { // P7.3
	d := &dice{1}
	count := map[string]int{}
	for range tries {
		p, s := d.company()
		what := text(t, p) + fmt.Sprint(s)
		room, most := d.roll(4), 1+d.roll(3)*d.roll(200)
		want, ok := search(p, s, room, most)
		wantErr := api.OK
		if !ok {
			wantErr = api.ErrFull
		}
		told, err := net.Explore(p, s, room, most)
		same(t, fmt.Sprint("Explore ", room, " ", most, " ", what), []any{told, err}, []any{want.told, wantErr})
		dead, is, err := net.Dead(p, s, room, most)
		same(t, fmt.Sprint("Dead ", room, " ", most, " ", what), []any{dead, is, err}, []any{want.dead, want.is, wantErr})
		count[fmt.Sprint("error ", wantErr)]++
		count[fmt.Sprint("ends ", told.Ends, " deads ", told.Deads)]++
		count[fmt.Sprint("loop ", ok && told.Ends+told.Deads == 0)]++
		want, ok = search(p, s, 0, most)
		wantErr = api.OK
		if !ok {
			wantErr = api.ErrFull
		}
		ends, err := net.Ends(p, s, most)
		same(t, fmt.Sprint("Ends ", most, " ", what), []any{ends, err}, []any{want.ends, wantErr})
	}
	for _, what := range []string{"error 0", "error 12", "ends 1 deads 0", "ends 0 deads 1", "loop true"} {
		if count[what] < tries/100 {
			t.Errorf("%s: %d", what, count[what])
		}
	}
}

// walk makes moves until no role is able, or most have been made, and tells whether a role is still able then.
func walk(p []api.Part, s []api.Store, most int, choose func(k int, able []int) int) (api.State, []api.Event, []string, bool) {
	st, events, moves := opening(p, s), []api.Event(nil), []string(nil)
	for {
		movers := able(p, st, 0)
		if len(movers) == 0 || len(moves) == most {
			return st, events, moves, len(movers) > 0
		}
		i := choose(len(moves), movers)
		next, told, _ := moved(p, st, i, 0)
		st, events, moves = next, append(events, told...), append(moves, p[i].Role)
	}
}

func TestRandomMoves(t *testing.T) { // P7.1, P7.2
	d := &dice{2}
	for range tries {
		p, s := d.company()
		what := text(t, p) + fmt.Sprint(s)
		st, events, moves, _ := walk(p, s, d.roll(40), func(k int, movers []int) int { return movers[d.roll(len(movers))] })
		got, gotEvents, err := net.Reach(p, s, moves)
		same(t, fmt.Sprint("Reach ", moves, what), []any{got, gotEvents, err}, []any{st, events, api.OK})
		names, err := net.Able(p, s, moves)
		movers := able(p, st, 0)
		same(t, fmt.Sprint("Able ", moves, what), []any{names, err}, []any{namesOf(p, movers), api.OK})
		for i, one := range p {
			wantErr := api.ErrRule
			if slices.Contains(movers, i) {
				wantErr = api.OK
			}
			_, _, err := net.Reach(p, s, append(slices.Clone(moves), one.Role))
			same(t, fmt.Sprint("Reach ", moves, one.Role, what), err, wantErr)
		}
	}
}

func TestRandomRuns(t *testing.T) { // P7.2
	d := &dice{3}
	for range tries {
		p, s := d.company()
		what := text(t, p) + fmt.Sprint(s)
		var choices []int
		for range 1 + d.roll(6) {
			choices = append(choices, d.roll(1+d.roll(2)*1000))
		}
		most := 1 + d.roll(60)
		st, events, _, more := walk(p, s, most, func(k int, movers []int) int { return movers[choices[k%len(choices)]%len(movers)] })
		want, left := []any{storesOf(st), events, waiting(st), api.OK}, []any{st.Queues, api.OK}
		if more {
			want, left = []any{"[]", "[]", "[]", api.ErrFull}, []any{"[]", api.ErrFull}
		}
		last, gotEvents, names, err := net.Run(p, s, choices, most)
		same(t, fmt.Sprint("Run ", choices, most, what), []any{last, gotEvents, names, err}, want)
		queues, err := net.Left(p, s, choices, most)
		same(t, fmt.Sprint("Left ", choices, most, what), []any{queues, err}, left)
		moved := -1
		_, _, moves, more := walk(p, s, most, func(k int, movers []int) int {
			for moved = (moved + 1) % len(p); !slices.Contains(movers, moved); {
				moved = (moved + 1) % len(p)
			}
			return moved
		})
		want = []any{moves, api.OK}
		if more {
			want = []any{"[]", api.ErrFull}
		}
		names, err = net.Turns(p, s, most)
		same(t, fmt.Sprint("Turns ", most, what), []any{names, err}, want)
	}
}

// waiting are the roles that have not ended.
func waiting(st api.State) []string {
	var out []string
	for _, n := range st.Nodes {
		if len(n.Rest) > 0 {
			out = append(out, n.Role)
		}
	}
	return out
}

func namesOf(p []api.Part, l []int) []string {
	var out []string
	for _, i := range l {
		out = append(out, p[i].Role)
	}
	return out
}
