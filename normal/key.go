package normal

import (
	"cmp"
	"slices"

	"splicery/api"
)

// keys writes keys. Functions append what stands for a definition, and for what binds a free variable.
type keys struct {
	definition func(l []int, id api.ID) []int
	variable   func(l []int, id api.ID) []int
}

// walk is a walk over an expression, on which it is known how many nodes that bind are around a node.
type walk struct {
	keys
	level int
}

// appendID appends the numbers of an ID.
func appendID(l []int, id api.ID) []int { return append(l, id.Shop, id.Seq, id.Index) }

// compareIDs returns the order of two IDs.
func compareIDs(a, b api.ID) int {
	return cmp.Or(cmp.Compare(a.Shop, b.Shop), cmp.Compare(a.Seq, b.Seq), cmp.Compare(a.Index, b.Index))
}

// compare returns the order of the keys of two nodes. No key is the beginning of another one, and as long as they are equal, the nodes have equally many kids.
func compare(a, b *node) int {
	if a.kind != b.kind { // as most are
		return cmp.Compare(a.kind, b.kind)
	}
	w := &walk{keys: keys{appendID, appendID}}
	var k, l []int
	var visit func(a, b *node) int
	visit = func(a, b *node) int {
		k, l = w.head(k[:0], a), w.head(l[:0], b)
		if c := slices.Compare(k, l); c != 0 {
			return c
		}
		w.enter(a, b)
		for i, kid := range a.kids {
			if c := visit(kid, b.kids[i]); c != 0 {
				return c
			}
		}
		w.leave(a)
		return 0
	}
	return visit(a, b)
}

// key returns the key of a node.
func (k keys) key(x *node) []int {
	w := &walk{keys: k}
	var l []int
	var visit func(x *node)
	visit = func(x *node) {
		l = w.head(l, x)
		w.enter(x)
		for _, kid := range x.kids {
			visit(kid)
		}
		w.leave(x)
	}
	visit(x)
	return l
}

// enter is called ahead of the kids of nodes that are at the same place.
func (w *walk) enter(l ...*node) {
	for _, x := range l {
		x.seen, x.level = w, w.level
	}
	if binds(l[0].kind) {
		w.level++
	}
}

// leave is called behind the kids of a node.
func (w *walk) leave(x *node) {
	if binds(x.kind) {
		w.level--
	}
}

// head appends the numbers of a key that stand ahead of the keys of the kids.
func (w *walk) head(l []int, x *node) []int {
	l = append(l, x.kind, x.n)
	switch x.kind {
	case api.NVar:
		if b := x.binder; b != nil && b.seen == w {
			l = append(l, 1, w.level-b.level-1)
		} else {
			l = w.variable(append(l, 0), x.origin())
		}
	case api.NCall, api.NRec, api.NField, api.NCase, api.NMatch:
		l = w.definition(l, x.ref)
	case api.NList:
		l = w.appendType(l, x.typ)
	}
	return append(l, len(x.kids))
}

// appendType appends the numbers of a type.
func (k keys) appendType(l []int, t api.Type) []int {
	l = append(l, t.Kind)
	if t.Kind == api.TDef {
		l = k.definition(l, t.Def)
	}
	l = append(l, len(t.Kids))
	for _, kid := range t.Kids {
		l = k.appendType(l, kid)
	}
	return l
}
