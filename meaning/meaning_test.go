package meaning_test

import (
	"testing"

	"promptbook/api"
	"promptbook/meaning"
	"promptbook/script"
)

func TestOf(t *testing.T) { // P3.1
	for text, want := range map[string]int{
		"7": 7, "x": 5, "y": 0, "x + 999": 4, "x - 6": 999, "x * 300": 500, "x < 6": 1, "x < 5": 0, "x == 5": 1, "x == y": 0, "!x": 0, "!y": 1, "x ? 2 : 3": 2, "y ? 2 : 3": 3, "(x + 1) * (y - 1)": 994,
	} {
		e, _, err := script.ReadExpr(text)
		if err != api.OK {
			t.Fatal(text, err)
		}
		m := meaning.Of(e)
		for range 2 {
			if n := m(func(name string) int { return map[string]int{"x": 5}[name] }); n != want {
				t.Errorf("%s: got %d, want %d", text, n, want)
			}
		}
	}
}

func TestOfWord(t *testing.T) { // P3.5: the list of operands is not kept
	five := func(meaning.Lookup) int { return 5 }
	operands := []meaning.Meaning{five, five, five}
	for op, want := range map[int]int{api.OpAdd: 10, api.OpSub: 0, api.OpMul: 25, api.OpLess: 0, api.OpSame: 1, api.OpNot: 0, api.OpWhen: 5} {
		m := meaning.OfWord(api.Word{Op: op}, operands)
		clear(operands)
		if n := m(nil); n != want {
			t.Errorf("operator %d: got %d, want %d", op, n, want)
		}
		operands = []meaning.Meaning{five, five, five}
	}
}
