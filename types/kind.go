package types

import (
	"splicery/api"
	"splicery/value"
)

// isPossible reports whether a node has a kind and, as far as this does not depend on a definition, a right number and as many kids as its kind asks for.
func isPossible(e *api.Expr) bool {
	kids := len(e.Kids)
	switch e.Kind {
	case api.NInt:
		return kids == 0 && -api.MaxInt <= e.N && e.N <= api.MaxInt
	case api.NBool:
		return kids == 0 && (e.N == 0 || e.N == 1)
	case api.NVar:
		return kids == 0
	case api.NOp:
		return kids == operands(e.N)
	case api.NField, api.NCase:
		return kids == 1
	case api.NLet:
		return kids == 2
	case api.NIf, api.NFold:
		return kids == 3
	case api.NCall, api.NRec, api.NMatch, api.NList:
		return true
	}
	return false
}

// operands returns the number of operands of an operation; -1, if there is no such operation.
func operands(n int) int {
	switch {
	case n < api.Add || n > api.Len:
		return -1
	case n == api.Not || n == api.Len:
		return 1
	}
	return 2
}

// isNamed reports whether a node of a kind can name a definition of another kind.
func isNamed(node, kind int) bool {
	switch node {
	case api.NCall:
		return kind == api.KFun || kind == api.KConv
	case api.NRec, api.NField:
		return kind == api.KRec
	}
	return kind == api.KCase // of a variant: a case or a match
}

// fitsSlots reports whether a node has as many kids, and the place of a slot, as the definition d asks for that it names, if it names one.
func fitsSlots(e *api.Expr, d *api.Def) bool {
	switch e.Kind {
	case api.NCall, api.NRec:
		return len(e.Kids) == len(d.Slots)
	case api.NField, api.NCase:
		return 0 <= e.N && e.N < len(d.Slots)
	case api.NMatch:
		return len(d.Slots) > 0 && len(e.Kids) == len(d.Slots)+1
	}
	return true
}

// number returns the type of the numbers.
func number() api.Type { return api.Type{Kind: api.TInt} }

// truth returns the type of the truth values.
func truth() api.Type { return api.Type{Kind: api.TBool} }

// typeOf returns the type that stands for a record or a variant.
func typeOf(d *api.Def) api.Type { return api.Type{Kind: api.TDef, Def: d.ID} }

// is returns a function that reports whether a type is equal to another one.
func is(t api.Type) func(t api.Type) bool {
	return func(other api.Type) bool { return value.SameType(t, other) }
}

// isAny reports true for all types.
func isAny(api.Type) bool { return true }

// isList reports whether a type is that of a list.
func isList(t api.Type) bool { return t.Kind == api.TList && len(t.Kids) == 1 }

// element returns the type of the elements of a list; the zero type, if it is none.
func element(t api.Type) api.Type {
	if !isList(t) {
		return api.Type{}
	}
	return t.Kids[0]
}
