package part

import (
	"slices"

	"promptbook/api"
	"promptbook/raw"
)

// field is a field of acts, or two that no kind has alone.
type field int

const (
	fieldWith field = iota
	fieldVar
	fieldLabel
	fieldExpr
	fieldBranches // Then and Else
	fieldOffers
	fieldProc
	fieldIndex
	fieldArgs
)

// form is the word that a kind of acts has in texts, and its fields in their order there.
type form struct {
	kind   int
	word   string
	fields []field
}

var forms = []form{
	{kind: api.ActSend, word: "send", fields: []field{fieldWith, fieldExpr}},
	{kind: api.ActTake, word: "take", fields: []field{fieldWith, fieldVar}},
	{kind: api.ActTell, word: "tell", fields: []field{fieldWith, fieldLabel}},
	{kind: api.ActOffer, word: "offer", fields: []field{fieldWith, fieldOffers}},
	{kind: api.ActSet, word: "set", fields: []field{fieldVar, fieldExpr}},
	{kind: api.ActIf, word: "if", fields: []field{fieldExpr, fieldBranches}},
	{kind: api.ActCall, word: "call", fields: []field{fieldProc, fieldIndex, fieldArgs}},
}

// formWhere is the form for which is holds, if there is one.
func formWhere(is func(f form) bool) (form, bool) {
	for _, f := range forms {
		if is(f) {
			return f, true
		}
	}
	return form{}, false
}

func formOf(kind int) (form, bool) {
	return formWhere(func(f form) bool { return f.kind == kind })
}

func (f form) has(x field) bool {
	return slices.Contains(f.fields, x)
}

// hasBlocks says whether acts can stand within one of this kind.
func (f form) hasBlocks() bool {
	return f.has(fieldBranches) || f.has(fieldOffers)
}

// hasOther says whether a field of an act that its kind does not use is not zero.
func (f form) hasOther(a api.Act) bool {
	for x := fieldWith; x <= fieldArgs; x++ {
		if !f.has(x) && !isZero(a, x) {
			return true
		}
	}
	return false
}

func isZero(a api.Act, x field) bool {
	switch x {
	case fieldExpr:
		return a.Expr.Op == 0 && a.Expr.N == 0 && a.Expr.Name == "" && len(a.Expr.Args) == 0
	case fieldBranches:
		return len(a.Then)+len(a.Else) == 0
	case fieldOffers:
		return len(a.Offers) == 0
	case fieldIndex:
		return a.Index == 0
	case fieldArgs:
		return len(a.Args) == 0
	}
	return *nameIn(&a, x) == ""
}

// nameIn is where an act has a name.
func nameIn(a *api.Act, x field) *string {
	switch x {
	case fieldWith:
		return &a.With
	case fieldVar:
		return &a.Var
	case fieldLabel:
		return &a.Label
	}
	return &a.Proc
}

// areNamed says whether all names that an act uses are names.
func (f form) areNamed(a api.Act) bool {
	for _, x := range f.fields {
		if isName(x) && !raw.IsName(*nameIn(&a, x)) {
			return false
		}
	}
	return true
}

func isName(x field) bool {
	return x == fieldWith || x == fieldVar || x == fieldLabel || x == fieldProc
}
