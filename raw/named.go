package raw

import "promptbook/api"

// IsValue says whether a variable can have the value n.
func IsValue(n int) bool {
	return 0 <= n && n <= api.MaxValue
}

// SlotName is the name of a variable.
func SlotName(s api.Slot) string {
	return s.Name
}

// CheckNamed checks a list of variables whose names have to rise; fits says whether the numbers of one are in their ranges.
func CheckNamed[T any](l []T, name func(T) string, fits func(T) bool) api.Errno {
	if len(l) > api.MaxSlots {
		return api.ErrLarge
	}
	for i, x := range l {
		switch {
		case !IsName(name(x)):
			return api.ErrName
		case !fits(x):
			return api.ErrArg
		case i > 0 && name(x) <= name(l[i-1]):
			return api.ErrOrder
		}
	}
	return api.OK
}
