package raw

import (
	"slices"
	"strings"

	"promptbook/api"
)

// Offered is which one of the Offers of an act, which rise by their labels, has a label. (None has the empty Label of a value.)
func Offered(a api.Act, label string) (int, bool) {
	return slices.BinarySearchFunc(a.Offers, label, func(o api.Offer, label string) int { return strings.Compare(o.Label, label) })
}
