package part

import (
	"slices"

	"promptbook/api"
	"promptbook/raw"
)

// field is a field of acts, or two that no kind has alone.
type field int

const (
	fieldWith field = iota
	fieldVar
	fieldLabel
	fieldExpr
	fieldBranches // Then and Else
	fieldOffers
	fieldProc
	fieldIndex
	fieldArgs
)

// form is the word that a kind of acts has in texts, and its fields in their order there.
type form struct {
	kind   int
	word   string
	fields []field
}

// formOf is the form of a kind, if there is such a kind.
func formOf(kind int) (form, bool) {
	switch kind {
	case api.ActSend:
		return form{kind: kind, word: "send", fields: []field{fieldWith, fieldExpr}}, true
	case api.ActTake:
		return form{kind: kind, word: "take", fields: []field{fieldWith, fieldVar}}, true
	case api.ActTell:
		return form{kind: kind, word: "tell", fields: []field{fieldWith, fieldLabel}}, true
	case api.ActOffer:
		return form{kind: kind, word: "offer", fields: []field{fieldWith, fieldOffers}}, true
	case api.ActSet:
		return form{kind: kind, word: "set", fields: []field{fieldVar, fieldExpr}}, true
	case api.ActIf:
		return form{kind: kind, word: "if", fields: []field{fieldExpr, fieldBranches}}, true
	case api.ActCall:
		return form{kind: kind, word: "call", fields: []field{fieldProc, fieldIndex, fieldArgs}}, true
	}
	return form{}, false
}

// formNamed is the form with a word, if there is one.
func formNamed(word string) (form, bool) {
	for kind := api.ActSend; kind <= api.ActCall; kind++ {
		if f, _ := formOf(kind); f.word == word {
			return f, true
		}
	}
	return form{}, false
}

func (f form) has(x field) bool {
	return slices.Contains(f.fields, x)
}

// hasBlocks says whether acts can stand within one of this kind.
func (f form) hasBlocks() bool {
	return f.has(fieldBranches) || f.has(fieldOffers)
}

// hasOther says whether a field of an act that its kind does not use is not zero.
func (f form) hasOther(a api.Act) bool {
	for x := fieldWith; x <= fieldArgs; x++ {
		if !f.has(x) && !isZero(a, x) {
			return true
		}
	}
	return false
}

func isZero(a api.Act, x field) bool {
	switch x {
	case fieldExpr:
		return a.Expr.Op == 0 && a.Expr.N == 0 && a.Expr.Name == "" && len(a.Expr.Args) == 0
	case fieldBranches:
		return len(a.Then)+len(a.Else) == 0
	case fieldOffers:
		return len(a.Offers) == 0
	case fieldIndex:
		return a.Index == 0
	case fieldArgs:
		return len(a.Args) == 0
	}
	return *nameIn(&a, x) == ""
}

// nameIn is where an act has a name.
func nameIn(a *api.Act, x field) *string {
	switch x {
	case fieldWith:
		return &a.With
	case fieldVar:
		return &a.Var
	case fieldLabel:
		return &a.Label
	}
	return &a.Proc
}

// areNamed says whether all names that an act uses are names.
func (f form) areNamed(a api.Act) bool {
	for _, x := range f.fields {
		if isName(x) && !raw.IsName(*nameIn(&a, x)) {
			return false
		}
	}
	return true
}

func isName(x field) bool {
	return x == fieldWith || x == fieldVar || x == fieldLabel || x == fieldProc
}
