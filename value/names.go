package value

import (
	"slices"
	"strings"

	"promptbook/api"
	"promptbook/raw"
)

func slotName(s api.Slot) string {
	return s.Name
}

func spanName(s api.Span) string {
	return s.Name
}

func isValue(n int) bool {
	return 0 <= n && n <= api.MaxValue
}

// checkNamed checks a list of things with names that have to rise; fits says whether the numbers of one are in their ranges.
func checkNamed[T any](l []T, name func(T) string, fits func(T) bool) api.Errno {
	if len(l) > api.MaxSlots {
		return api.ErrLarge
	}
	for i, x := range l {
		switch {
		case !raw.IsName(name(x)):
			return api.ErrName
		case !fits(x):
			return api.ErrArg
		case i > 0 && name(x) <= name(l[i-1]):
			return api.ErrOrder
		}
	}
	return api.OK
}

func checkSpans(s []api.Span) api.Errno {
	return checkNamed(s, spanName, func(s api.Span) bool {
		return isValue(s.Low) && isValue(s.High) && s.Low <= s.High
	})
}

// find is what has a name in a list that checkNamed has found right, if there is such a thing.
func find[T any](l []T, name func(T) string, wanted string) (T, bool) {
	i, found := slices.BinarySearchFunc(l, wanted, func(x T, wanted string) int {
		return strings.Compare(name(x), wanted)
	})
	if !found {
		var none T
		return none, false
	}
	return l[i], true
}

// slotValues are the values of variables by their names.
func slotValues(v []api.Slot) lookup {
	return func(name string) int {
		s, _ := find(v, slotName, name)
		return s.Value
	}
}

// spanRanges are the ranges of variables by their names.
func spanRanges(l []api.Span) func(name string) reach {
	return func(name string) reach {
		if s, found := find(l, spanName, name); found {
			return reach{s.Low, s.High}
		}
		return anything()
	}
}

// variables are those of some expressions, rising.
func variables(l ...api.Expr) []string {
	names := appendNames(nil, l)
	slices.Sort(names)
	return slices.Compact(names)
}

func appendNames(names []string, l []api.Expr) []string {
	for _, e := range l {
		if e.Op == api.OpVar {
			names = append(names, e.Name)
		}
		names = appendNames(names, e.Args)
	}
	return names
}
