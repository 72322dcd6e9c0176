package raw_test

import (
	"testing"

	"promptbook/api"
	"promptbook/raw"
)

func TestOffered(t *testing.T) { // P6.4, P7.1
	a := api.Act{Kind: api.ActOffer, Offers: []api.Offer{{Label: "b"}, {Label: "c"}, {Label: "d1"}, {Label: "e"}}}
	for i, o := range a.Offers {
		if at, ok := raw.Offered(a, o.Label); !ok || at != i {
			t.Errorf("%q: got %d, %v", o.Label, at, ok)
		}
	}
	for _, label := range []string{"", "a", "bb", "d", "d2", "f"} {
		if _, ok := raw.Offered(a, label); ok {
			t.Errorf("%q is offered", label)
		}
	}
	if _, ok := raw.Offered(api.Act{Kind: api.ActTake}, ""); ok {
		t.Error("an ActTake offers something")
	}
}
