package worklist_test

import (
	"fmt"
	"testing"

	"promptbook/worklist"
)

func TestList(t *testing.T) { // P2.3, P6.5
	w := worklist.New(3, 1, 3)
	w.Add(2)
	w.Add(1)
	var done []int
	w.Run(func(x int) {
		done = append(done, x)
		if len(done) < 4 {
			w.Add(x)
			w.Add(2)
			w.Add(x + 10)
		}
	})
	if got := fmt.Sprint(done); got != "[3 1 2 3 13 1 11 2 12]" {
		t.Errorf("got %s", got)
	}
	w.Run(func(x int) { t.Errorf("%d waits", x) })
	worklist.New[string]().Run(func(s string) { t.Errorf("%s waits", s) })
}
