// Package raw has what the raw forms of many values need: what a name is, and how many Args an operator has.
package raw

import (
	"slices"

	"promptbook/api"
)

// IsName says whether s is a name of a role, a variable, a label or a procedure.
func IsName(s string) bool {
	if len(s) < 1 || len(s) > api.MaxName || !IsSmall(s[0]) || IsReserved(s) {
		return false
	}
	for i := range len(s) {
		if !IsSmall(s[i]) && !IsDigit(s[i]) && s[i] != '_' {
			return false
		}
	}
	return true
}

// IsReserved says whether s is a word that the grammar keeps for itself.
func IsReserved(s string) bool {
	switch s {
	case "proc", "main", "if", "else":
		return true
	}
	return false
}

// IsSmall says whether c is a small letter.
func IsSmall(c byte) bool {
	return 'a' <= c && c <= 'z'
}

// IsDigit says whether c is a decimal digit.
func IsDigit(c byte) bool {
	return '0' <= c && c <= '9'
}

// Operands is how many Args an operator of expressions needs.
func Operands(op int) int {
	switch op {
	case api.OpNumber, api.OpVar:
		return 0
	case api.OpNot:
		return 1
	case api.OpWhen:
		return 3
	}
	return 2
}

// Equal compares expressions.
func Equal(a, b api.Expr) bool {
	return a.Op == b.Op && a.N == b.N && a.Name == b.Name && slices.EqualFunc(a.Args, b.Args, Equal)
}

// EqualHeads compares acts without Then, Else and Offers.
func EqualHeads(a, b api.Act) bool {
	return a.Kind == b.Kind && a.With == b.With && a.Var == b.Var && a.Label == b.Label && a.Proc == b.Proc && a.Index == b.Index &&
		Equal(a.Expr, b.Expr) && slices.Equal(a.Args, b.Args)
}
