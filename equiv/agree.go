package equiv

import (
	"slices"

	"splicery/api"
	"splicery/normal"
	"splicery/steps"
	"splicery/value"
)

// meet says that a definition has to be the same in both programs.
func (x *pair) meet(id api.ID) {
	if !x.met[id] {
		x.met[id] = true
		x.open = append(x.open, id)
	}
}

// settle reports whether the definitions that have been met are the same in both programs, with those that are met on the way. When one is not, the pair is not asked for others any more.
func (x *pair) settle() bool {
	for len(x.open) > 0 {
		last := len(x.open) - 1
		id := x.open[last]
		x.open = x.open[:last]
		if !x.same(x.a.defs[id], x.b.defs[id]) {
			return false
		}
	}
	return true
}

// same reports whether a definition is in both programs, and the same but for the definitions that it names, which it meets.
func (x *pair) same(a, b *api.Def) bool {
	if a == nil || b == nil || a.Kind != b.Kind || !x.sameSlots(a, b) {
		return false
	}
	return !steps.HasBody(a) || x.sameType(&a.Result, &b.Result) && x.alike(a.Body, b.Body, a.Slots, b.Slots)
}

// sameSlots reports whether definitions have equally many slots with equal types, and meets what these name.
func (x *pair) sameSlots(a, b *api.Def) bool {
	if len(a.Slots) != len(b.Slots) {
		return false
	}
	for i := range a.Slots {
		if !x.sameType(&a.Slots[i].Type, &b.Slots[i].Type) {
			return false
		}
	}
	return true
}

// sameType reports whether two types are equal, and meets the definitions that they name.
func (x *pair) sameType(a, b *api.Type) bool {
	if !value.SameType(*a, *b) {
		return false
	}
	var visit func(t *api.Type)
	visit = func(t *api.Type) {
		if t.Kind == api.TDef {
			x.meet(t.Def)
		}
		for i := range t.Kids {
			visit(&t.Kids[i])
		}
	}
	visit(a)
	return true
}

// agree reports whether the bodies of both definitions agree, with values for their first slots.
func (x *pair) agree(l []api.Value) bool {
	a, b := x.a.def.Slots, x.b.def.Slots
	var literals []api.Expr
	for i, v := range l {
		literals = append(literals, x.a.literal(&a[i].Type, v))
	}
	return x.alike(fill(x.a.def, literals), fill(x.b.def, literals), a[len(l):], b[len(l):]) && x.settle()
}

// name is what a variable stands for: a slot, or a name of a node.
type name struct {
	id api.ID
	n  int
}

// alike reports whether the normal forms of two bodies are alike, where slots at the same places correspond, and meets the definitions that they name.
func (x *pair) alike(a, b api.Expr, slotsA, slotsB []api.Slot) bool {
	inA, inB := map[name]int{}, map[name]int{} // names with the same number correspond; those that are not bound have the number 0
	count := 0
	for i := range slotsA {
		count++
		inA[name{slotsA[i].ID, 0}], inB[name{slotsB[i].ID, 0}] = count, count
	}
	var alike func(a, b *api.Expr) bool
	// under compares the kids i, where the names from first on, before end, correspond.
	var under func(a, b *api.Expr, i, first, end int) bool
	under = func(a, b *api.Expr, i, first, end int) bool {
		if first == end {
			return alike(&a.Kids[i], &b.Kids[i])
		}
		m, n := name{a.ID, first}, name{b.ID, first}
		outerA, outerB := inA[m], inB[n]
		count++
		inA[m], inB[n] = count, count
		ok := under(a, b, i, first+1, end)
		inA[m], inB[n] = outerA, outerB
		return ok
	}
	alike = func(a, b *api.Expr) bool {
		if !x.sameNode(a, b) {
			return false
		}
		if a.Kind == api.NVar {
			m, n := inA[name{a.Ref, a.N}], inB[name{b.Ref, b.N}]
			if m != n || m == 0 && a.Ref != b.Ref {
				return false
			}
		}
		for i := range a.Kids {
			first, end := bound(a, i)
			if !under(a, b, i, first, end) {
				return false
			}
		}
		return true
	}
	a, b = normal.Expr(x.a.part, a), normal.Expr(x.b.part, b)
	return alike(&a, &b)
}

// sameNode reports whether two nodes are alike but for their kids and what variables stand for, and meets the definitions that they name.
func (x *pair) sameNode(a, b *api.Expr) bool {
	if a.Kind != b.Kind || a.N != b.N || len(a.Kids) != len(b.Kids) {
		return false
	}
	switch a.Kind {
	case api.NList:
		return x.sameType(&a.Type, &b.Type)
	case api.NCall, api.NRec, api.NField, api.NCase, api.NMatch:
		x.meet(a.Ref)
		return a.Ref == b.Ref
	}
	return true
}

// bound returns the first one of the names that a node binds in its kid i, and the number behind the last one.
func bound(e *api.Expr, i int) (first, end int) {
	switch {
	case e.Kind == api.NLet && i == 1:
		return 0, 1
	case e.Kind == api.NFold && i == 2:
		return 0, 2
	case e.Kind == api.NMatch && i > 0:
		return i - 1, i
	}
	return 0, 0
}

// literal returns the literal of a value of a type.
func (s side) literal(t *api.Type, v api.Value) api.Expr {
	var types []*api.Type // of the kids of v
	e := api.Expr{N: v.N}
	switch v.Kind {
	case api.VInt:
		e.Kind = api.NInt
	case api.VBool:
		e.Kind = api.NBool
	case api.VRec:
		e.Kind, e.Ref = api.NRec, t.Def
		for i := range v.Kids {
			types = append(types, &s.defs[t.Def].Slots[i].Type)
		}
	case api.VCase:
		e.Kind, e.Ref = api.NCase, t.Def
		types = append(types, &s.defs[t.Def].Slots[v.N].Type)
	case api.VList:
		e.Kind, e.Type = api.NList, t.Kids[0]
		types = slices.Repeat([]*api.Type{&t.Kids[0]}, len(v.Kids))
	}
	for i, kid := range v.Kids {
		e.Kids = append(e.Kids, s.literal(types[i], kid))
	}
	return e
}

// fill returns the body of a definition with literals in the place of the variables of its first slots.
func fill(d *api.Def, literals []api.Expr) api.Expr {
	if len(literals) == 0 {
		return d.Body
	}
	known := map[api.ID]*api.Expr{}
	for i := range literals {
		known[d.Slots[i].ID] = &literals[i]
	}
	var filled func(e api.Expr) api.Expr
	filled = func(e api.Expr) api.Expr {
		if e.Kind == api.NVar {
			if x := known[e.Ref]; x != nil && e.N == 0 {
				return *x
			}
			return e
		}
		kids := make([]api.Expr, len(e.Kids))
		for i, kid := range e.Kids {
			outer := known[e.ID]
			if first, end := bound(&e, i); outer != nil && first == 0 && end > 0 {
				known[e.ID] = nil // here the node binds what the slot binds around it
				kids[i] = filled(kid)
				known[e.ID] = outer
			} else {
				kids[i] = filled(kid)
			}
		}
		e.Kids = kids
		return e
	}
	return filled(d.Body)
}
