package normal

import (
	"slices"

	"splicery/api"
)

// replace returns the normal form of what a normal node becomes with a leaf in the place of each variable for the name n of a node around it. Only what is around these variables is visited: all else stays normal.
func (t *tree) replace(binder *node, n int, leaf, root *node) *node {
	var hiding []*node
	for _, v := range binder.uses {
		if v.binder == binder && v.n == n {
			hiding = append(hiding, v.mark(root, leaf)...)
		}
	}
	for _, x := range hiding { // when all variables are marked, since mark stops where it has been
		t.rename(x, root)
	}
	var again func(x *node) *node
	again = func(x *node) *node {
		x.marked = false
		if x.binder == binder && x.n == n {
			x.become(leaf)
		}
		for _, kid := range x.changed {
			x.attach(kid.place, again(kid))
		}
		x.changed = x.changed[:0]
		return t.settle(x)
	}
	if root.marked {
		return again(root)
	}
	return root
}

// mark marks a variable and the nodes around it, up to the root, and returns those of them that would bind a leaf in its place.
func (x *node) mark(root, leaf *node) []*node {
	var hiding []*node
	for ; !x.marked; x = x.up {
		x.marked = true
		if x == root {
			break
		}
		x.up.changed = append(x.up.changed, x)
		if leaf != nil && x.up.hides(x.place, leaf) {
			hiding = append(hiding, x.up)
		}
	}
	return hiding
}

// hides reports whether a node binds in its kid at a place what a leaf names, which something further out binds.
func (x *node) hides(place int, leaf *node) bool {
	first, end := bound(x.kind, place)
	return leaf.kind == api.NVar && first <= leaf.n && leaf.n < end && x.id == leaf.origin()
}

// rename gives a node below the root another ID, and marks its variables, since these have other keys then.
func (t *tree) rename(x, root *node) {
	x.id = t.fresh()
	for _, v := range x.uses {
		if v.binder == x {
			v.mark(root, nil)
		}
	}
}

// meets reports whether there is a variable in a branch of a NMatch that a NLet with the same ID would bind, although something further out binds it.
func (x *node) meets(branch *node) bool {
	w := &walk{}
	w.enter(x)
	var visit func(y *node) bool
	visit = func(y *node) bool {
		w.enter(y)
		inside := y.binder != nil && y.binder.seen == w
		return y.kind == api.NVar && y.n == 0 && y.origin() == x.id && !inside || slices.ContainsFunc(y.kids, visit)
	}
	return visit(branch)
}
