package weave_test

import (
	"fmt"
	"slices"

	"promptbook/api"
	"promptbook/run"
)

// story tells of events what the chapter says, word by word, without any haste.
type story struct {
	l        []api.Event
	partners []int
	before   [][]bool
}

func isLetter(e api.Event) bool {
	return e.Kind == api.ActSend || e.Kind == api.ActTell
}

func isTaker(e api.Event) bool {
	return e.Kind == api.ActTake || e.Kind == api.ActOffer
}

// partnerOf counts letters, and those who take them.
func partnerOf(l []api.Event, i int) int {
	letters, takers := []int{}, []int{}
	from, to := l[i].Role, l[i].With
	if isTaker(l[i]) {
		from, to = to, from
	}
	for k, e := range l {
		if isLetter(e) && e.Role == from && e.With == to {
			letters = append(letters, k)
		}
		if isTaker(e) && e.Role == to && e.With == from {
			takers = append(takers, k)
		}
	}
	mine, theirs := letters, takers
	if isTaker(l[i]) {
		mine, theirs = takers, letters
	}
	if n := slices.Index(mine, i); n >= 0 && n < len(theirs) {
		return theirs[n]
	}
	return -1
}

// checked is what Check says.
func checked(l []api.Event) api.Errno {
	if err := run.CheckEvents(l); err != api.OK {
		return err
	}
	for i, e := range l {
		if !isTaker(e) {
			continue
		}
		p := partnerOf(l, i)
		switch {
		case p < 0 || p > i:
			return api.ErrNone
		case e.Kind == api.ActTake && l[p].Kind == api.ActTell, e.Kind == api.ActOffer && l[p].Kind == api.ActSend:
			return api.ErrType
		case e.Kind == api.ActTake && l[p].Value != e.Value, e.Kind == api.ActOffer && l[p].Name != e.Name:
			return api.ErrConflict
		}
	}
	return api.OK
}

// teller tells of events that are right.
func teller(l []api.Event) *story {
	s := &story{l: l}
	for i := range l {
		s.partners = append(s.partners, partnerOf(l, i))
		s.before = append(s.before, make([]bool, len(l)))
	}
	for again := true; again; {
		again = false
		for i := range l {
			for k := range l {
				if !s.before[i][k] && s.leads(i, k) {
					s.before[i][k], again = true, true
				}
			}
		}
	}
	return s
}

func (s *story) leads(i, k int) bool {
	if i < k && s.l[i].Role == s.l[k].Role || isTaker(s.l[k]) && s.partners[k] == i {
		return true
	}
	for j := range s.l {
		if s.before[i][j] && s.before[j][k] {
			return true
		}
	}
	return false
}

// arrows are those between which there is nothing.
func (s *story) arrows() []api.Arrow {
	var out []api.Arrow
	for i := range s.l {
		for k := range s.l {
			between := false
			for j := range s.l {
				between = between || s.before[i][j] && s.before[j][k]
			}
			if s.before[i][k] && !between {
				out = append(out, api.Arrow{From: i, To: k})
			}
		}
	}
	return out
}

// links is how many pairs there are of an event and the next one of its role, or the one that takes it.
func (s *story) links() int {
	n := 0
	for i := range s.l {
		for k := range s.l {
			if s.next(i, k) || isTaker(s.l[k]) && s.partners[k] == i {
				n++
			}
		}
	}
	return n
}

func (s *story) clocks() ([]string, [][]int) {
	var roles []string
	for _, e := range s.l {
		if !slices.Contains(roles, e.Role) {
			roles = append(roles, e.Role)
		}
	}
	slices.Sort(roles)
	var out [][]int
	for k := range s.l {
		var clock []int
		for _, role := range roles {
			n := 0
			for i, e := range s.l {
				if e.Role == role && (i == k || s.before[i][k]) {
					n++
				}
			}
			clock = append(clock, n)
		}
		out = append(out, clock)
	}
	return roles, out
}

func (s *story) layers() [][]int {
	longest := make([]int, len(s.l)) // how many events the longest chain has that ends with each one
	for k := range s.l {
		longest[k] = 1
		for i := range k {
			if s.before[i][k] {
				longest[k] = max(longest[k], longest[i]+1)
			}
		}
	}
	var out [][]int
	for n := 1; ; n++ {
		var layer []int
		for k := range s.l {
			if longest[k] == n {
				layer = append(layer, k)
			}
		}
		if len(layer) == 0 {
			return out
		}
		out = append(out, layer)
	}
}

// canCome says whether all has come that happens before an event.
func (s *story) canCome(k int, come []bool) bool {
	for i := range s.l {
		if s.before[i][k] && !come[i] {
			return false
		}
	}
	return true
}

func (s *story) normal() []api.Event {
	var out []api.Event
	come := make([]bool, len(s.l))
	for range s.l {
		next := -1
		for k, e := range s.l {
			if !come[k] && s.canCome(k, come) && (next < 0 || e.Role < s.l[next].Role) {
				next = k
			}
		}
		out = append(out, s.l[next])
		come[next] = true
	}
	return out
}

// alike compares what each role does.
func alike(a, b []api.Event) bool {
	for _, e := range slices.Concat(a, b) {
		one, _ := run.Actions(a, e.Role)
		other, _ := run.Actions(b, e.Role)
		if !slices.Equal(one, other) {
			return false
		}
	}
	return true
}

func cost(e api.Event, c api.Costs) int {
	return map[int]int{api.ActSend: c.Send, api.ActTake: c.Take, api.ActTell: c.Tell, api.ActOffer: c.Offer, api.ActSet: c.Set, api.ActIf: c.If}[e.Kind]
}

// times are when events begin and when all end, if the event late begins so much later than it could.
func (s *story) times(c api.Costs, late, delay int) ([]int, int) {
	var begins []int
	end := 0
	for k, e := range s.l {
		begin := 0
		for i := range k {
			if s.l[i].Role == e.Role {
				begin = max(begin, begins[i]+cost(s.l[i], c))
			}
		}
		if isTaker(e) {
			p := s.partners[k]
			begin = max(begin, begins[p]+cost(s.l[p], c)+c.Way)
		}
		if k == late {
			begin += delay
		}
		begins = append(begins, begin)
		end = max(end, begin+cost(e, c))
	}
	return begins, end
}

// slack tries how much later each event could begin.
func (s *story) slack(c api.Costs) []int {
	_, end := s.times(c, -1, 0)
	var out []int
	for e := range s.l {
		delay := 0
		for {
			if _, later := s.times(c, e, delay+1); later > end {
				break
			}
			delay++
		}
		out = append(out, delay)
	}
	return out
}

// next says whether k is the next event of the role of i.
func (s *story) next(i, k int) bool {
	for j := i + 1; j < k; j++ {
		if s.l[j].Role == s.l[i].Role {
			return false
		}
	}
	return i < k && s.l[i].Role == s.l[k].Role
}

// critical looks at all lists.
func (s *story) critical(c api.Costs) []int {
	begins, end := s.times(c, -1, 0)
	var best []int
	var grow func(list []int)
	grow = func(list []int) {
		last := list[len(list)-1]
		ended := begins[last] + cost(s.l[last], c)
		if ended == end && (best == nil || slices.Compare(list, best) < 0) {
			best = slices.Clone(list)
		}
		for k := range s.l {
			takes := isTaker(s.l[k]) && s.partners[k] == last
			if begins[k] == ended && s.next(last, k) || begins[k] == ended+c.Way && takes {
				grow(append(slices.Clone(list), k))
			}
		}
	}
	for k, begin := range begins {
		if begin == 0 {
			grow([]int{k})
		}
	}
	return best
}

// members are the events of a set that is told by the bits of a number.
func (s *story) members(set int) []int {
	var out []int
	for e := range s.l {
		if set>>e&1 == 1 {
			out = append(out, e)
		}
	}
	return out
}

func (s *story) concurrent(l []int) bool {
	for i := range l {
		for k := range l {
			if i != k && s.before[l[i]][l[k]] {
				return false
			}
		}
	}
	return true
}

// antichain looks at all sets of events.
func (s *story) antichain() []int {
	var best []int
	for set := range 1 << len(s.l) {
		l := s.members(set)
		if s.concurrent(l) && (len(l) > len(best) || len(l) == len(best) && slices.Compare(l, best) < 0) {
			best = l
		}
	}
	return best
}

// chains tries all numbers, in their order.
func (s *story) chains() ([]int, int) {
	for n := 0; ; n++ {
		if l, found := s.numbered(nil, n); found {
			return l, n
		}
	}
}

func (s *story) numbered(l []int, n int) ([]int, bool) {
	e := len(l)
	if e == len(s.l) {
		return l, true
	}
	for number := range n {
		fits := true
		for i := range e {
			fits = fits && (l[i] != number || s.before[i][e])
		}
		if fits {
			if all, found := s.numbered(append(slices.Clone(l), number), n); found {
				return all, true
			}
		}
	}
	return nil, false
}

// firstConcurrent is the first list of so many events that are concurrent, and that begins with some.
func (s *story) firstConcurrent(l []int, size int) []int {
	if len(l) == size {
		return l
	}
	first := 0
	if len(l) > 0 {
		first = l[len(l)-1] + 1
	}
	for e := first; e < len(s.l); e++ {
		if more := append(slices.Clone(l), e); s.concurrent(more) {
			if all := s.firstConcurrent(more, size); all != nil {
				return all
			}
		}
	}
	return nil
}

// orders tries them all.
func (s *story) orders(come []bool) int {
	n, left := 0, false
	for k := range s.l {
		left = left || !come[k]
		if !come[k] && s.canCome(k, come) {
			come[k] = true
			n += s.orders(come)
			come[k] = false
		}
	}
	if !left {
		return 1
	}
	return n
}

// cuts are the sets that have all that happens before what they have.
func (s *story) cuts() [][]int {
	var out [][]int
	for set := range 1 << len(s.l) {
		l := s.members(set)
		whole := true
		for _, k := range l {
			for i := range s.l {
				whole = whole && (!s.before[i][k] || slices.Contains(l, i))
			}
		}
		if whole {
			out = append(out, l)
		}
	}
	return out
}

func (s *story) queue(from, to string) int {
	most := 0
	for _, cut := range s.cuts() {
		n := 0
		for _, e := range cut {
			if isLetter(s.l[e]) && s.l[e].Role == from && s.l[e].With == to && !slices.Contains(cut, s.partners[e]) {
				n++
			}
		}
		most = max(most, n)
	}
	return most
}

// told is what all functions return, as everything is, by this story.
func told(l, m []api.Event, i, k int, c api.Costs, from, to string) []any {
	if err := checked(l); err != api.OK {
		return nothing(err)
	}
	s := teller(l)
	all := []any{api.OK, s.partners, api.OK}
	put := func(l ...any) { all = append(all, l...) }
	if i < 0 || i >= len(l) || k < 0 || k >= len(l) {
		put(false, api.ErrArg)
	} else {
		put(s.before[i][k], api.OK)
	}
	roles, clocks := s.clocks()
	put(s.arrows(), api.OK, roles, clocks, api.OK, s.layers(), api.OK, s.normal(), api.OK)
	if err := checked(m); err != api.OK {
		put(false, err)
	} else {
		put(alike(l, m), api.OK)
	}
	begins, end := s.times(c, -1, 0)
	numbers, n := s.chains()
	put(begins, end, api.OK, s.slack(c), api.OK, s.critical(c), api.OK, s.antichain(), api.OK, numbers, n, api.OK)
	put(s.orders(make([]bool, len(l))), api.OK, len(s.cuts()), api.OK)
	switch {
	case from == "" || to == "if":
		put(0, api.ErrName)
	case from == to:
		put(0, api.ErrTwice)
	default:
		put(s.queue(from, to), api.OK)
	}
	return all
}

// what is the text of events with costs.
func what(l []api.Event, c api.Costs) string {
	return fmt.Sprintf("%s with %+v", text(l), c)
}
