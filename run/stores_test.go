package run_test

import (
	"math"
	"strings"
	"testing"

	"promptbook/api"
	"promptbook/run"
)

// wrongStores are stores with CheckStores' errors.
func wrongStores() []struct {
	what string
	s    []api.Store
	want api.Errno
} {
	long := strings.Repeat("x", api.MaxName)
	one := func(role string, v ...api.Slot) []api.Store { return []api.Store{{Role: role, Vars: v}} }
	x, y := api.Slot{Name: "x", Value: 1}, api.Slot{Name: "y", Value: 1}
	of := func(role string, v ...api.Slot) api.Store { return api.Store{Role: role, Vars: v} }
	return []struct {
		what string
		s    []api.Store
		want api.Errno
	}{
		{"none", nil, api.OK},
		{"one", one("a", x), api.OK},
		{"several", stores("a.x=1 a.y=999 b.a=5 b.x=2"), api.OK},
		{"MaxRoles", manyStores(api.MaxRoles), api.OK},
		{"more", manyStores(api.MaxRoles + 1), api.ErrLarge},
		{"more, all wrong", make([]api.Store, api.MaxRoles+1), api.ErrLarge},
		{"MaxRoles, all wrong", make([]api.Store, api.MaxRoles), api.ErrName},
		{"no role", one("", x), api.ErrName},
		{"a wrong role", one("A", x), api.ErrName},
		{"a word of the grammar", one("main", x), api.ErrName},
		{"a long role", one(long, x), api.OK},
		{"a longer role", one(long+"x", x), api.ErrName},
		{"no Vars", one("a"), api.ErrForm},
		{"no Vars, empty", []api.Store{{Role: "a", Vars: []api.Slot{}}}, api.ErrForm},
		{"no Vars of a wrong role", one("A"), api.ErrName},
		{"MaxSlots", one("a", manySlots(api.MaxSlots)...), api.OK},
		{"more slots", one("a", manySlots(api.MaxSlots+1)...), api.ErrLarge},
		{"more slots, all wrong", one("a", make([]api.Slot, api.MaxSlots+1)...), api.ErrLarge},
		{"no name", one("a", api.Slot{Value: 1}), api.ErrName},
		{"a wrong name", one("a", api.Slot{Name: "else", Value: -1}), api.ErrName},
		{"0", one("a", api.Slot{Name: "x"}), api.ErrArg},
		{"below 0", one("a", api.Slot{Name: "x", Value: -1}), api.ErrArg},
		{"far below 0", one("a", api.Slot{Name: "x", Value: math.MinInt}), api.ErrArg},
		{"999", one("a", api.Slot{Name: "x", Value: 999}), api.OK},
		{"1000", one("a", api.Slot{Name: "x", Value: 1000}), api.ErrArg},
		{"far more", one("a", api.Slot{Name: "x", Value: math.MaxInt}), api.ErrArg},
		{"names twice", one("a", x, x), api.ErrOrder},
		{"names falling", one("a", y, x), api.ErrOrder},
		{"names falling, 0", one("a", y, api.Slot{Name: "x"}), api.ErrArg},
		{"names falling, a wrong one behind", one("a", y, x, api.Slot{Name: "Z"}), api.ErrOrder},
		{"0, names falling behind", one("a", api.Slot{Name: "z"}, y, x), api.ErrArg},
		{"roles twice", []api.Store{of("a", x), of("a", y)}, api.ErrOrder},
		{"roles falling", []api.Store{of("b", x), of("a", x)}, api.ErrOrder},
		{"roles falling, no Vars", []api.Store{of("b", x), of("a")}, api.ErrForm},
		{"roles falling, 0", []api.Store{of("b", x), of("a", api.Slot{Name: "x"})}, api.ErrArg},
		{"roles falling, names too", []api.Store{of("b", y, x), of("a", x)}, api.ErrOrder},
		{"roles falling, a wrong one behind", []api.Store{of("b", x), of("a", x), of("C")}, api.ErrOrder},
		{"names are compared within a role", []api.Store{of("a", y), of("b", x)}, api.OK},
		{"bytes", []api.Store{of("a", x), of("a0", x), of("a_", x), of("aa", x)}, api.OK},
	}
}

func TestCheckStores(t *testing.T) { // P4.1
	for _, c := range wrongStores() {
		same(t, c.what, run.CheckStores(c.s), c.want)
	}
}

func TestStoresAreChecked(t *testing.T) { // P4.2, P4.3, P4.6: by all functions that take them
	p := read(t, "main { a.x := 1; b.x := 2; c.x := 3; }")
	for _, c := range wrongStores() {
		if c.want == api.OK {
			continue
		}
		for i, err := range outcomes(p, c.s, 9) {
			if err != c.want {
				t.Errorf("%s: error %d of function %d, want %d", c.what, err, i, c.want)
			}
		}
		n, err := run.Value(c.s, "A", "")
		same(t, c.what, []any{n, err}, []any{0, c.want})
		s, err := run.With(c.s, "A", "", -1)
		same(t, c.what, []any{s, err}, []any{[]api.Store{}, c.want})
		text, err := run.StoresText(c.s)
		same(t, c.what, []any{text, err}, []any{"", c.want})
	}
}

func TestValue(t *testing.T) { // P4.3
	s := stores("a.x=5 a.z=999 b.x=7")
	for _, c := range []struct {
		role, name string
		want       int
		err        api.Errno
	}{
		{"a", "x", 5, 0}, {"a", "z", 999, 0}, {"b", "x", 7, 0}, {"a", "y", 0, 0}, {"b", "z", 0, 0}, {"c", "x", 0, 0}, {"x", "a", 0, 0},
		{"", "x", 0, api.ErrName}, {"a", "", 0, api.ErrName}, {"A", "x", 0, api.ErrName}, {"a", "x.", 0, api.ErrName}, {"if", "x", 0, api.ErrName}, {"a", "proc", 0, api.ErrName},
	} {
		n, err := run.Value(s, c.role, c.name)
		same(t, c.role+"."+c.name, []any{n, err}, []any{c.want, c.err})
	}
	n, err := run.Value(nil, "a", "x")
	same(t, "no stores", []any{n, err}, []any{0, api.OK})
}

func TestWith(t *testing.T) { // P4.3
	for _, c := range []struct {
		first, at string
		value     int
		want      string
	}{
		{"", "a.x", 1, "a.x=1"}, {"", "a.x", 0, ""}, {"a.x=1", "a.x", 0, ""}, {"a.x=1", "a.x", 999, "a.x=999"}, {"a.x=1", "a.x", 1, "a.x=1"},
		{"a.x=1", "a.w", 2, "a.w=2 a.x=1"}, {"a.x=1", "a.y", 2, "a.x=1 a.y=2"}, {"a.x=1", "a.y", 0, "a.x=1"}, {"a.x=1 a.y=2 a.z=3", "a.y", 0, "a.x=1 a.z=3"}, {"a.x=1 a.z=3", "a.y", 2, "a.x=1 a.y=2 a.z=3"},
		{"b.x=1 d.x=2", "a.y", 3, "a.y=3 b.x=1 d.x=2"}, {"b.x=1 d.x=2", "c.y", 3, "b.x=1 c.y=3 d.x=2"}, {"b.x=1 d.x=2", "e.y", 3, "b.x=1 d.x=2 e.y=3"}, {"b.x=1 c.x=4 d.x=2", "c.x", 0, "b.x=1 d.x=2"}, {"b.x=1 d.x=2", "d.w", 3, "b.x=1 d.w=3 d.x=2"},
	} {
		v := variable(c.at)
		s, err := run.With(stores(c.first), v.Role, v.Name, c.value)
		same(t, c.first+" with "+c.at, []any{s, err}, []any{stores(c.want), api.OK})
	}
	full := []api.Store{{Role: "a", Vars: manySlots(api.MaxSlots)}}
	for _, c := range []struct {
		what       string
		s          []api.Store
		role, name string
		value      int
		want       api.Errno
	}{
		{"no role", nil, "", "x", -1, api.ErrName},
		{"no name", nil, "a", "X", -1, api.ErrName},
		{"below 0", nil, "a", "x", -1, api.ErrArg},
		{"1000", nil, "a", "x", 1000, api.ErrArg},
		{"far below", nil, "a", "x", math.MinInt, api.ErrArg},
		{"far above", nil, "a", "x", math.MaxInt, api.ErrArg},
		{"another role", manyStores(api.MaxRoles), "a", "x", 1, api.ErrLarge},
		{"0 of another role", manyStores(api.MaxRoles), "a", "x", 0, api.OK},
		{"a role that is there", manyStores(api.MaxRoles), "r000003", "y", 1, api.OK},
		{"the last role that has room", manyStores(api.MaxRoles - 1), "a", "x", 1, api.OK},
		{"another variable", full, "a", "x", 1, api.ErrLarge},
		{"0 of another variable", full, "a", "x", 0, api.OK},
		{"a variable that is there", full, "a", "v000007", 1, api.OK},
		{"a variable of another role", full, "b", "x", 1, api.OK},
		{"a wrong value before too many", full, "a", "x", 1000, api.ErrArg},
	} {
		s, err := run.With(c.s, c.role, c.name, c.value)
		same(t, c.what, err, c.want)
		if c.want != api.OK {
			same(t, c.what, s, []api.Store{})
			continue
		}
		n, err := run.Value(s, c.role, c.name)
		same(t, c.what, []any{n, err}, []any{c.value, api.OK})
	}
}

func TestWithOfRandom(t *testing.T) { // P4.3
	d := &dice{3}
	for range 500 {
		roles := []string{"a", "b", "c"}
		s := d.stores(roles)
		role, name, n := d.pick(roles...), d.pick(names...), []int{0, 1, 999}[d.roll(3)]
		got, err := run.With(s, role, name, n)
		same(t, short(s), []any{err, run.CheckStores(got)}, []any{api.OK, api.OK})
		for _, r := range roles {
			for _, v := range names {
				want, _ := run.Value(s, r, v)
				if r == role && v == name {
					want = n
				}
				is, err := run.Value(got, r, v)
				same(t, short(s), []any{is, err}, []any{want, api.OK})
			}
		}
	}
}
