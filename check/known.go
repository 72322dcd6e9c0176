package check

import (
	"maps"
	"slices"
)

// flags are a set of small numbers, 64 to a word. They do not change once they are made; nil is the empty set, all others of one play have the same length.
type flags []uint64

func flag(i, count int) flags {
	f := make(flags, (count+63)/64)
	f[i/64] = 1 << (i % 64)
	return f
}

func (f flags) has(i int) bool {
	return f != nil && f[i/64]>>(i%64)&1 == 1
}

func (f flags) or(g flags) flags {
	if f == nil {
		return g
	}
	if g == nil {
		return f
	}
	out := make(flags, len(f))
	for i := range f {
		out[i] = f[i] | g[i]
	}
	return out
}

func (f flags) and(g flags) flags {
	if f == nil || g == nil {
		return nil
	}
	out := make(flags, len(f))
	some := false
	for i := range f {
		out[i] = f[i] & g[i]
		some = some || out[i] != 0
	}
	if !some {
		return nil
	}
	return out
}

// known are the variables that are set on all ways, by their roles; a role without any does not stand in it.
type known map[string]flags

func (k known) add(role string, f flags) {
	if f != nil {
		k[role] = k[role].or(f)
	}
}

func (k known) addAll(more known) {
	for role, f := range more {
		k.add(role, f)
	}
}

// common is what stands in both.
func (k known) common(other known) known {
	out := known{}
	for role, f := range k {
		out.add(role, f.and(other[role]))
	}
	return out
}

func (k known) equal(other known) bool {
	return maps.EqualFunc(k, other, slices.Equal[flags])
}

// scope is what is known in a list of steps: since it begins, and before.
type scope struct {
	own   known
	outer *scope
}

func (s *scope) of(role string) flags {
	var f flags
	for ; s != nil; s = s.outer {
		f = f.or(s.own[role])
	}
	return f
}

func (s *scope) has(role string, i int) bool {
	for ; s != nil; s = s.outer {
		if s.own[role].has(i) {
			return true
		}
	}
	return false
}
