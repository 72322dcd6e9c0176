package value

import (
	"slices"
	"strings"

	"promptbook/api"
	"promptbook/meaning"
	"promptbook/raw"
)

func spanName(s api.Span) string {
	return s.Name
}

func checkSpans(s []api.Span) api.Errno {
	return raw.CheckNamed(s, spanName, func(s api.Span) bool {
		return raw.IsValue(s.Low) && raw.IsValue(s.High) && s.Low <= s.High
	})
}

// find is what has a name in a list that raw.CheckNamed has found right, if there is such a thing.
func find[T any](l []T, name func(T) string, wanted string) (T, bool) {
	i, found := slices.BinarySearchFunc(l, wanted, func(x T, wanted string) int {
		return strings.Compare(name(x), wanted)
	})
	if !found {
		var none T
		return none, false
	}
	return l[i], true
}

// slotValues are the values of variables by their names.
func slotValues(v []api.Slot) meaning.Lookup {
	return func(name string) int {
		s, _ := find(v, raw.SlotName, name)
		return s.Value
	}
}

// spanRanges are the ranges of variables by their names.
func spanRanges(l []api.Span) func(name string) reach {
	return func(name string) reach {
		if s, found := find(l, spanName, name); found {
			return reach{s.Low, s.High}
		}
		return anything()
	}
}

// variables are those of some expressions, rising.
func variables(l ...api.Expr) []string {
	names := appendNames(nil, l)
	slices.Sort(names)
	return slices.Compact(names)
}

func appendNames(names []string, l []api.Expr) []string {
	for _, e := range l {
		if e.Op == api.OpVar {
			names = append(names, e.Name)
		}
		names = appendNames(names, e.Args)
	}
	return names
}
