package equiv_test

import (
	"slices"

	"splicery/api"
	"splicery/domain"
	"splicery/equiv"
	"splicery/eval"
	"splicery/normal"
	"splicery/value"
)

// binding reports whether nodes of a kind bind names.
func binding(kind int) bool { return kind == api.NLet || kind == api.NFold || kind == api.NMatch }

// bindsIn returns the names that a node binds in its kid i.
func bindsIn(e api.Expr, i int) []int {
	switch {
	case e.Kind == api.NLet && i == 1:
		return []int{0}
	case e.Kind == api.NFold && i == 2:
		return []int{0, 1}
	case e.Kind == api.NMatch && i > 0:
		return []int{i - 1}
	}
	return nil
}

// hasBody reports whether a definition is of the kinds KFun to KConv.
func hasBody(d api.Def) bool {
	return slices.Contains([]int{api.KFun, api.KOn, api.KTest, api.KConv}, d.Kind)
}

// namedIn returns the definitions that a type leads to at once.
func namedIn(t api.Type) []api.ID {
	var l []api.ID
	if t.Kind == api.TDef {
		l = append(l, t.Def)
	}
	for _, kid := range t.Kids {
		l = append(l, namedIn(kid)...)
	}
	return l
}

// namedBy returns the definitions that the nodes of an expression name, and the types in them.
func namedBy(e api.Expr) []api.ID {
	var l []api.ID
	switch e.Kind {
	case api.NCall, api.NRec, api.NField, api.NCase, api.NMatch:
		l = append(l, e.Ref)
	case api.NList:
		l = append(l, namedIn(e.Type)...)
	}
	for _, kid := range e.Kids {
		l = append(l, namedBy(kid)...)
	}
	return l
}

// first returns the first definition with an ID.
func first(p api.Prog, id api.ID) (api.Def, bool) {
	i := slices.IndexFunc(p.Defs, func(d api.Def) bool { return d.ID == id })
	if i < 0 {
		return api.Def{}, false
	}
	return p.Defs[i], true
}

// slotsAgree reports whether two definitions have equally many slots with equal types.
func slotsAgree(a, b api.Def) bool {
	return slices.EqualFunc(a.Slots, b.Slots, func(s, t api.Slot) bool { return value.SameType(s.Type, t.Type) })
}

// led returns the definitions to which the types of slots lead.
func led(l []api.Slot) []api.ID {
	var some []api.ID
	for _, s := range l {
		some = append(some, namedIn(s.Type)...)
	}
	return some
}

// leadAlike reports whether definitions to which types lead are in both programs, with the same content.
func leadAlike(p, q api.Prog, next []api.ID) bool {
	var seen []api.ID
	for ; len(next) > 0; next = next[1:] {
		if slices.Contains(seen, next[0]) {
			continue
		}
		seen = append(seen, next[0])
		a, inP := first(p, next[0])
		b, inQ := first(q, next[0])
		if !inP || !inQ || a.Kind != b.Kind || !slotsAgree(a, b) {
			return false
		}
		next = append(slices.Clone(next), led(a.Slots)...)
	}
	return true
}

// comparableByRule returns the error for two definitions, but for that of the inputs.
func comparableByRule(x two) api.Errno {
	a, inP := first(x.p, x.a)
	b, inQ := first(x.q, x.b)
	data := func(d api.Def) bool { return d.Kind == api.KRec || d.Kind == api.KCase }
	switch {
	case !inP || !inQ || data(a) || data(b):
		return api.ErrNone
	case !hasBody(a) || !hasBody(b) || !slotsAgree(a, b) || !leadAlike(x.p, x.q, led(a.Slots)):
		return api.ErrType
	}
	return api.OK
}

// callsByRule returns the values of both calls; false, if one of them fails.
func callsByRule(x two, l []api.Value) (v, w api.Value, ok bool) {
	v, _, e := eval.Call(x.p, x.a, l, x.fuel)
	w, _, f := eval.Call(x.q, x.b, l, x.fuel)
	return v, w, e == api.OK && f == api.OK
}

// differsByRule reports whether two definitions differ on an input.
func differsByRule(x two, l []api.Value) bool {
	v, w, ok := callsByRule(x, l)
	return ok && value.Compare(v, w) != 0
}

// link is two names that correspond.
type link struct {
	a, b   api.ID
	na, nb int
}

// alikeByRule reports whether two expressions are alike, where the names of links correspond.
func alikeByRule(a, b api.Expr, l []link) bool {
	if a.Kind != b.Kind || a.N != b.N || len(a.Kids) != len(b.Kids) {
		return false
	}
	switch a.Kind {
	case api.NList:
		if !value.SameType(a.Type, b.Type) {
			return false
		}
	case api.NCall, api.NRec, api.NField, api.NCase, api.NMatch:
		if a.Ref != b.Ref {
			return false
		}
	case api.NVar:
		i, j := -1, -1
		for n, x := range l {
			if x.a == a.Ref && x.na == a.N {
				i = n
			}
			if x.b == b.Ref && x.nb == b.N {
				j = n
			}
		}
		if i != j || i == -1 && (a.Ref != b.Ref || a.N != b.N) {
			return false
		}
	}
	for i := range a.Kids {
		inner := slices.Clone(l)
		for _, n := range bindsIn(a, i) {
			inner = append(inner, link{a.ID, b.ID, n, n})
		}
		if !alikeByRule(a.Kids[i], b.Kids[i], inner) {
			return false
		}
	}
	return true
}

// agreeByRule reports whether two bodies agree, where these slots correspond.
func agreeByRule(p api.Prog, a api.Expr, s []api.Slot, q api.Prog, b api.Expr, t []api.Slot) bool {
	var l []link
	for i := range s {
		l = append(l, link{a: s[i].ID, b: t[i].ID})
	}
	a, b = normal.Expr(p, a), normal.Expr(q, b)
	if !alikeByRule(a, b, l) {
		return false
	}
	for _, n := range append(namedBy(a), namedBy(b)...) {
		c, inP := first(p, n)
		d, inQ := first(q, n)
		if !inP || !inQ || c.Kind != d.Kind || !slotsAgree(c, d) || !leadAlike(p, q, led(c.Slots)) {
			return false
		}
		if !hasBody(c) {
			continue
		}
		if !value.SameType(c.Result, d.Result) || !leadAlike(p, q, namedIn(c.Result)) || !agreeByRule(p, c.Body, c.Slots, q, d.Body, d.Slots) {
			return false
		}
	}
	return true
}

// literalByRule returns the literal of a value of a type.
func literalByRule(p api.Prog, t api.Type, v api.Value) api.Expr {
	var kids []api.Expr
	d, _ := first(p, t.Def)
	for i, kid := range v.Kids {
		switch v.Kind {
		case api.VRec:
			kids = append(kids, literalByRule(p, d.Slots[i].Type, kid))
		case api.VCase:
			kids = append(kids, literalByRule(p, d.Slots[v.N].Type, kid))
		case api.VList:
			kids = append(kids, literalByRule(p, t.Kids[0], kid))
		}
	}
	switch v.Kind {
	case api.VInt:
		return api.Expr{Kind: api.NInt, N: v.N}
	case api.VBool:
		return api.Expr{Kind: api.NBool, N: v.N}
	case api.VRec:
		return api.Expr{Kind: api.NRec, Ref: t.Def, Kids: kids}
	case api.VCase:
		return api.Expr{Kind: api.NCase, Ref: t.Def, N: v.N, Kids: kids}
	}
	return api.Expr{Kind: api.NList, Type: t.Kids[0], Kids: kids}
}

// putByRule returns an expression with another one in the place of each variable of a slot.
func putByRule(e api.Expr, slot api.ID, by api.Expr) api.Expr {
	if e.Kind == api.NVar && e.Ref == slot && e.N == 0 {
		return by
	}
	kids := e.Kids
	e.Kids = nil
	for i, kid := range kids {
		if e.ID != slot || !slices.Contains(bindsIn(e, i), 0) { // otherwise the variables in it are not those of the slot
			kid = putByRule(kid, slot, by)
		}
		e.Kids = append(e.Kids, kid)
	}
	return e
}

// rightByRule reports whether a proof is right for values of the first slots.
func rightByRule(x two, proof equiv.Proof, l []api.Value) bool {
	a, _ := first(x.p, x.a)
	b, _ := first(x.q, x.b)
	k := len(l)
	if proof.Normal {
		inA, inB := a.Body, b.Body
		for i, v := range l {
			inA = putByRule(inA, a.Slots[i].ID, literalByRule(x.p, a.Slots[i].Type, v))
			inB = putByRule(inB, b.Slots[i].ID, literalByRule(x.q, b.Slots[i].Type, v))
		}
		return proof.Slot == 0 && len(proof.Kids) == 0 && len(proof.Result) == 0 && agreeByRule(x.p, inA, a.Slots[k:], x.q, inB, b.Slots[k:])
	}
	if k == len(a.Slots) {
		v, w, ok := callsByRule(x, l)
		if proof.Slot != 0 || len(proof.Kids) != 0 {
			return false
		}
		if !ok {
			return len(proof.Result) == 0
		}
		return len(proof.Result) == 1 && value.Compare(proof.Result[0], v) == 0 && value.Compare(proof.Result[0], w) == 0
	}
	values, _ := domain.Values(x.p, a.Slots[k].Type, a.Slots[k].Most)
	if proof.Slot != k || len(proof.Result) != 0 || len(proof.Kids) != len(values) {
		return false
	}
	for i, kid := range proof.Kids {
		if !rightByRule(x, kid, append(slices.Clone(l), values[i])) {
			return false
		}
	}
	return true
}

// inputsByRule returns the inputs of the first definition, or the error.
func inputsByRule(x two) ([][]api.Value, api.Errno) {
	d, _ := first(x.p, x.a)
	return domain.Inputs(x.p, d.Slots)
}

// errorByRule returns the error of Differ, and, if it is ErrDiffer, the input.
func errorByRule(x two) ([]api.Value, api.Errno) {
	if e := comparableByRule(x); e != api.OK {
		return nil, e
	}
	inputs, e := inputsByRule(x)
	if e != api.OK {
		return nil, e
	}
	for _, l := range inputs {
		if differsByRule(x, l) {
			return l, api.ErrDiffer
		}
	}
	return nil, api.OK
}

// checkByRule returns the error of Check.
func checkByRule(x two, proof equiv.Proof) api.Errno {
	if e := comparableByRule(x); e != api.OK {
		return e
	}
	if _, e := inputsByRule(x); e != api.OK {
		return e
	}
	if !rightByRule(x, proof, nil) {
		return api.ErrCheck
	}
	return api.OK
}
