package normal

import (
	"slices"

	"splicery/api"
)

// node is a node of an expression that is rewritten in place. A variable knows the node that binds it: the IDs of nodes need not differ.
type node struct {
	kind, n int
	id, ref api.ID
	typ     api.Type
	names   []string
	kids    []*node
	up      *node   // the node whose kid it is
	place   int     // its place among these kids
	binder  *node   // of a variable: the node of the expression that binds it, if one does; ref does not count then
	uses    []*node // of a node that binds: the variables that it binds, and others that it has bound before
	count   int     // how many variables it binds
	marked  bool    // whether it, or a node below it, changes
	changed []*node // those of its kids that are marked
	seen    *walk   // of a node that binds: the last walk on which it has been entered
	level   int     // and how many such nodes were around it there
}

// name is what binds a variable: the ID of a slot or node, and which of its names.
type name struct {
	id api.ID
	n  int
}

// tree is what is known of all nodes of an expression.
type tree struct {
	low    int             // no ID has a lesser Index
	shared map[api.ID]bool // the IDs of several nodes that bind, or of what binds a free variable
}

// growth makes the nodes of an expression.
type growth struct {
	tree
	scope map[name]*node  // what binds variables here
	taken map[api.ID]bool // the IDs of nodes that bind
}

// grow returns the nodes of an expression.
func grow(e api.Expr) (*tree, *node) {
	g := &growth{tree{shared: map[api.ID]bool{}}, map[name]*node{}, map[api.ID]bool{}}
	root := g.node(&e)
	return &g.tree, root
}

// node returns a node and all below it.
func (g *growth) node(e *api.Expr) *node {
	x := &node{kind: e.Kind, n: e.N, id: e.ID, ref: e.Ref, typ: e.Type, names: e.Names}
	g.low = min(g.low, e.ID.Index, e.Ref.Index)
	switch {
	case e.Kind == api.NVar:
		g.variable(x)
	case binds(e.Kind):
		if g.taken[e.ID] {
			g.shared[e.ID] = true
		}
		g.taken[e.ID] = true
	}
	if len(e.Kids) > 0 {
		x.kids = make([]*node, len(e.Kids))
	}
	for i := range e.Kids {
		if first, end := bound(e.Kind, i); first < end {
			g.inside(x, i, &e.Kids[i], first, end)
		} else {
			x.attach(i, g.node(&e.Kids[i]))
		}
	}
	return x
}

// variable finds what binds a variable.
func (g *growth) variable(x *node) {
	if b := g.scope[name{x.ref, x.n}]; b != nil {
		b.bind(x)
	} else {
		g.shared[x.ref] = true
	}
}

// inside makes a kid in which a node binds names, from the first one on.
func (g *growth) inside(x *node, place int, e *api.Expr, first, end int) {
	outer := make([]*node, 0, 2)
	for n := first; n < end; n++ {
		outer = append(outer, g.scope[name{x.id, n}])
		g.scope[name{x.id, n}] = x
	}
	x.attach(place, g.node(e))
	for n := first; n < end; n++ {
		g.scope[name{x.id, n}] = outer[n-first]
	}
}

// binds reports whether nodes of a kind bind names.
func binds(kind int) bool { return kind == api.NLet || kind == api.NFold || kind == api.NMatch }

// bound returns which names a node of a kind binds in its kid at a place: from the first one on, as far as the end.
func bound(kind, place int) (first, end int) {
	switch {
	case kind == api.NLet && place == 1:
		return 0, 1
	case kind == api.NFold && place == 2:
		return 0, 2
	case kind == api.NMatch && place > 0:
		return place - 1, place
	}
	return 0, 0
}

// fresh returns an ID that no node has.
func (t *tree) fresh() api.ID {
	t.low--
	return api.ID{Index: t.low}
}

// attach makes a node the kid at a place.
func (x *node) attach(place int, kid *node) {
	x.kids[place] = kid
	kid.up, kid.place = x, place
}

// bind makes a node bind a variable.
func (x *node) bind(v *node) {
	v.binder = x
	x.uses = append(x.uses, v)
	x.count++
}

// become makes a variable a leaf: a literal or another variable. What has bound it is about to go.
func (x *node) become(leaf *node) {
	x.kind, x.n, x.ref, x.binder = leaf.kind, leaf.n, leaf.ref, nil
	if leaf.binder != nil {
		leaf.binder.bind(x)
	}
}

// drop forgets the variables of a node and of all below it, but not those of a node that is kept.
func (x *node) drop(kept *node) {
	if x == kept {
		return
	}
	if x.binder != nil {
		x.binder.count--
		x.binder = nil
	}
	for _, kid := range x.kids {
		kid.drop(kept)
	}
}

// origin returns the ID of what binds a variable.
func (x *node) origin() api.ID {
	if x.binder != nil {
		return x.binder.id
	}
	return x.ref
}

// expr returns the expression of a node and of all below it.
func (x *node) expr() api.Expr {
	e := api.Expr{ID: x.id, Kind: x.kind, N: x.n, Ref: x.origin(), Type: copyType(x.typ), Names: slices.Clone(x.names)}
	if len(x.kids) > 0 {
		e.Kids = make([]api.Expr, len(x.kids))
	}
	for i, kid := range x.kids {
		e.Kids[i] = kid.expr()
	}
	return e
}

// copyType returns a type that shares no memory with t.
func copyType(t api.Type) api.Type {
	t.Kids = slices.Clone(t.Kids)
	for i, kid := range t.Kids {
		t.Kids[i] = copyType(kid)
	}
	return t
}
