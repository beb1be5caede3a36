package check_test

import (
	"slices"

	"splicery/api"
	"splicery/types"
	"splicery/value"
)

// firstDef returns the definition with an ID by the words of the chapter.
func firstDef(p api.Prog, n api.ID) (api.Def, bool) {
	i := slices.IndexFunc(p.Defs, func(d api.Def) bool { return d.ID == n })
	if i < 0 {
		return api.Def{}, false
	}
	return p.Defs[i], true
}

// firstSlot returns the ID of the first slot for which a function is true.
func firstSlot(l []api.Slot, is func(s api.Slot) bool) (api.ID, bool) {
	i := slices.IndexFunc(l, is)
	if i < 0 {
		return api.ID{}, false
	}
	return l[i].ID, true
}

// defByRule returns what Def has to return, by the words of the chapter.
func defByRule(p api.Prog, n api.ID) (api.Errno, api.ID) {
	d, ok := firstDef(p, n)
	if !ok {
		return api.ErrNone, api.ID{}
	}
	if d.Kind < 0 || d.Kind > 5 {
		return api.ErrArg, n
	}
	if s, ok := firstSlot(d.Slots, func(s api.Slot) bool { return !value.ValidType(p, s.Type) }); ok {
		return api.ErrDead, s
	}
	if d.Kind == api.KRec || d.Kind == api.KCase {
		if len(d.Slots) == 0 {
			return api.ErrNeed, n
		}
		return api.OK, api.ID{}
	}
	if s, ok := firstSlot(d.Slots, func(s api.Slot) bool { return s.Most < 0 || s.Most > 64 }); ok && d.Kind == api.KTest {
		return api.ErrRange, s
	}
	if !value.ValidType(p, d.Result) {
		return api.ErrDead, n
	}
	if d.Kind == api.KConv && len(d.Slots) != 1 {
		return api.ErrArg, n
	}
	if d.Kind == api.KOn && !handlesByRule(p, d) {
		return api.ErrArg, n
	}
	var l []types.Bound
	for _, s := range d.Slots {
		l = append(l, types.Bound{ID: s.ID, N: 0, Type: s.Type})
	}
	on, code := types.Fits(p, l, d.Body, d.Result)
	return code, on
}

// handlesByRule reports whether a handler has the right slots and the right Result.
func handlesByRule(p api.Prog, d api.Def) bool {
	if len(d.Slots) != 2 || d.Slots[1].Type.Kind != api.TDef || d.Result.Kind != api.TDef {
		return false
	}
	event, known := firstDef(p, d.Slots[1].Type.Def)
	if !known || event.Kind != api.KCase || len(event.Slots) == 0 || !sameType(event.Slots[0].Type, whole) {
		return false
	}
	result, known := firstDef(p, d.Result.Def)
	return known && result.Kind == api.KRec && slices.EqualFunc(result.Slots, []api.Type{d.Slots[0].Type, listOf(whole), whole}, func(s api.Slot, t api.Type) bool { return sameType(s.Type, t) })
}

// allByRule returns what All has to return.
func allByRule(p api.Prog) []api.Conflict {
	var l []api.Conflict
	for _, d := range p.Defs {
		if code, on := defByRule(p, d.ID); code != api.OK {
			l = append(l, api.Conflict{Code: code, On: on, Kind: api.OpKinds, By: []api.ID{d.ID}})
		}
	}
	return l
}

// numbersOf returns the numbers of an ID.
func numbersOf(n api.ID) []int { return []int{n.Shop, n.Seq, n.Index} }

// typeNumbers returns numbers that are different for different types.
func typeNumbers(t api.Type) []int {
	l := append([]int{t.Kind, len(t.Kids)}, numbersOf(t.Def)...)
	for _, kid := range t.Kids {
		l = append(l, typeNumbers(kid)...)
	}
	return l
}

// signatureByRule returns numbers that are different for different signatures.
func signatureByRule(d api.Def) []int {
	l := []int{d.Kind, len(d.Slots)}
	for _, s := range d.Slots {
		l = append(append(l, numbersOf(s.ID)...), typeNumbers(s.Type)...)
	}
	return append(l, typeNumbers(d.Result)...)
}

// nodesOf returns the nodes of an expression, in preorder.
func nodesOf(e api.Expr) []api.Expr {
	l := []api.Expr{e}
	for _, kid := range e.Kids {
		l = append(l, nodesOf(kid)...)
	}
	return l
}

// bodyOf returns the nodes of the body of a definition, if it has one.
func bodyOf(d api.Def) []api.Expr {
	if !slices.Contains([]int{api.KFun, api.KOn, api.KTest, api.KConv}, d.Kind) {
		return nil
	}
	return nodesOf(d.Body)
}

// insideByRule returns numbers that are different for different insides.
func insideByRule(d api.Def) []int {
	l := signatureByRule(d)
	for _, s := range d.Slots {
		l = append(l, s.Most)
	}
	for _, e := range bodyOf(d) {
		l = append(l, e.Kind, e.N, len(e.Kids))
		l = slices.Concat(l, numbersOf(e.ID), numbersOf(e.Ref), typeNumbers(e.Type))
	}
	return l
}

// typeNames returns the IDs that a type names.
func typeNames(t api.Type) []api.ID {
	var l []api.ID
	if t.Kind == api.TDef {
		l = append(l, t.Def)
	}
	for _, kid := range t.Kids {
		l = append(l, typeNames(kid)...)
	}
	return l
}

// namedByRule returns what a definition names.
func namedByRule(d api.Def) []api.ID {
	l := typeNames(d.Result)
	for _, s := range d.Slots {
		l = append(l, typeNames(s.Type)...)
	}
	for _, e := range bodyOf(d) {
		if e.Kind == api.NCall || e.Kind == api.NRec || e.Kind == api.NField || e.Kind == api.NCase || e.Kind == api.NMatch {
			l = append(l, e.Ref)
		}
		if e.Kind == api.NList {
			l = append(l, typeNames(e.Type)...)
		}
	}
	return l
}

// affectedByRule returns what Affected has to return.
func affectedByRule(p, q api.Prog) []api.ID {
	var l []api.ID
	for _, d := range q.Defs {
		d, _ = firstDef(q, d.ID)
		old, known := firstDef(p, d.ID)
		affected := !known || !slices.Equal(insideByRule(old), insideByRule(d))
		for _, n := range namedByRule(d) {
			a, inP := firstDef(p, n)
			b, inQ := firstDef(q, n)
			affected = affected || inP != inQ || inP && inQ && !slices.Equal(signatureByRule(a), signatureByRule(b))
		}
		if affected {
			l = append(l, d.ID)
		}
	}
	slices.SortFunc(l, func(a, b api.ID) int { return slices.Compare(numbersOf(a), numbersOf(b)) })
	return slices.Compact(l)
}

// againByRule returns what Again has to return.
func againByRule(p, q api.Prog, old []api.Conflict) ([]api.Conflict, int) {
	var l []api.Conflict
	n, affected := 0, affectedByRule(p, q)
	for _, d := range q.Defs {
		if slices.Contains(affected, d.ID) {
			n++
			if code, on := defByRule(q, d.ID); code != api.OK {
				l = append(l, api.Conflict{Code: code, On: on, Kind: api.OpKinds, By: []api.ID{d.ID}})
			}
			continue
		}
		i := slices.IndexFunc(old, func(c api.Conflict) bool { return len(c.By) == 1 && c.By[0] == d.ID })
		if i >= 0 {
			l = append(l, old[i])
		}
	}
	return l, n
}
