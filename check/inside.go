package check

import (
	"slices"

	"splicery/api"
	"splicery/value"
)

// index finds the definitions of a program, and so their signatures, by their IDs: of several ones with the same ID the first one.
type index map[api.ID]*api.Def

func newIndex(p api.Prog) index {
	x := index{}
	for i := range p.Defs {
		if d := &p.Defs[i]; x[d.ID] == nil {
			x[d.ID] = d
		}
	}
	return x
}

// hasBody reports whether definitions of the kind of d have a body.
func hasBody(d *api.Def) bool { return d.Kind >= api.KFun && d.Kind <= api.KConv }

// changedSignatures returns the IDs for which one of two programs has no definition, or one with another signature.
func changedSignatures(p, q index) map[api.ID]bool {
	changed := map[api.ID]bool{}
	for id, d := range p {
		if other := q[id]; other == nil || !sameSignature(d, other) {
			changed[id] = true
		}
	}
	for id := range q {
		if p[id] == nil {
			changed[id] = true
		}
	}
	return changed
}

// sameSignature reports whether two definitions are the same for those that name them.
func sameSignature(a, b *api.Def) bool {
	return a.Kind == b.Kind && value.SameType(a.Result, b.Result) && slices.EqualFunc(a.Slots, b.Slots, func(s, t api.Slot) bool {
		return s.ID == t.ID && value.SameType(s.Type, t.Type)
	})
}

// sameInside reports whether all that counts for the errors of two definitions is the same.
func sameInside(a, b *api.Def) bool {
	most := func(s, t api.Slot) bool { return s.Most == t.Most }
	return sameSignature(a, b) && slices.EqualFunc(a.Slots, b.Slots, most) && (!hasBody(a) || sameBody(a.Body, b.Body))
}

// sameBody reports whether two expressions are the same but for the names that they bind.
func sameBody(a, b api.Expr) bool {
	return a.Kind == b.Kind && a.N == b.N && a.Ref == b.Ref && a.ID == b.ID && value.SameType(a.Type, b.Type) && slices.EqualFunc(a.Kids, b.Kids, sameBody)
}

// namesOneOf reports whether a definition names an ID of a set.
func namesOneOf(d *api.Def, set map[api.ID]bool) bool {
	found := false
	visitNamed(d, func(id api.ID) { found = found || set[id] })
	return found
}

// visitNamed calls a function with each ID that a definition names.
func visitNamed(d *api.Def, visit func(id api.ID)) {
	var visitType func(t api.Type)
	visitType = func(t api.Type) {
		if t.Kind == api.TDef {
			visit(t.Def)
		}
		for _, kid := range t.Kids {
			visitType(kid)
		}
	}
	var visitNode func(e *api.Expr)
	visitNode = func(e *api.Expr) {
		switch e.Kind {
		case api.NCall, api.NRec, api.NField, api.NCase, api.NMatch:
			visit(e.Ref)
		case api.NList:
			visitType(e.Type)
		}
		for i := range e.Kids {
			visitNode(&e.Kids[i])
		}
	}
	for _, s := range d.Slots {
		visitType(s.Type)
	}
	visitType(d.Result)
	if hasBody(d) {
		visitNode(&d.Body)
	}
}
