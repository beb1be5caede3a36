package trace

import (
	"slices"

	"splicery/api"
	"splicery/steps"
	"splicery/value"
)

// Changed returns the IDs of the definitions and nodes that only one of two programs has, or whose contents differ, in increasing order.
func Changed(p, q api.Prog) []api.ID {
	changed := set{}
	tell := func(id api.ID) { changed[id] = true }
	compareAll(steps.Defs(p), steps.Defs(q), sameDef, tell)
	compareAll(nodes(p), nodes(q), sameNode, tell)
	return changed.list()
}

// compareAll tells of the IDs for which only one of two maps has an element, or for which their elements are not the same.
func compareAll[T any](p, q map[api.ID]*T, same func(a, b *T) bool, tell func(id api.ID)) {
	for id, a := range p {
		if b := q[id]; b == nil || !same(a, b) {
			tell(id)
		}
	}
	for id := range q {
		if p[id] == nil {
			tell(id)
		}
	}
}

// nodes returns the nodes of a program by their IDs: of several ones with the same ID the first one.
func nodes(p api.Prog) map[api.ID]*api.Expr {
	found := map[api.ID]*api.Expr{}
	var visit func(e *api.Expr)
	visit = func(e *api.Expr) {
		if found[e.ID] == nil {
			found[e.ID] = e
		}
		for i := range e.Kids {
			visit(&e.Kids[i])
		}
	}
	for i := range p.Defs {
		if d := &p.Defs[i]; steps.HasBody(d) {
			visit(&d.Body)
		}
	}
	return found
}

// sameDef reports whether two definitions have the same content.
func sameDef(a, b *api.Def) bool {
	return a.Kind == b.Kind && slices.EqualFunc(a.Slots, b.Slots, sameSlot) && value.SameType(a.Result, b.Result) &&
		(!steps.HasBody(a) || a.Body.ID == b.Body.ID)
}

// sameSlot reports whether two slots are the same in what belongs to the content of their definitions.
func sameSlot(a, b api.Slot) bool {
	return a.ID == b.ID && a.Most == b.Most && value.SameType(a.Type, b.Type)
}

// sameNode reports whether two nodes have the same content.
func sameNode(a, b *api.Expr) bool {
	return a.Kind == b.Kind && a.N == b.N && a.Ref == b.Ref && value.SameType(a.Type, b.Type) && slices.EqualFunc(a.Kids, b.Kids, sameID)
}

// sameID reports whether two nodes have the same ID.
func sameID(a, b api.Expr) bool { return a.ID == b.ID }
