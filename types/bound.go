package types

import (
	"cmp"

	"splicery/api"
)

// name is what a variable stands for: the name n of the slot or node id.
type name struct {
	id api.ID
	n  int
}

// compare returns the order of two names.
func compare(a, b name) int {
	return cmp.Or(cmp.Compare(a.id.Shop, b.id.Shop), cmp.Compare(a.id.Seq, b.id.Seq), cmp.Compare(a.id.Index, b.id.Index), cmp.Compare(a.n, b.n))
}

// namesIn returns the names that a node binds in one of its kids.
func namesIn(e *api.Expr, kid int) []name {
	switch {
	case e.Kind == api.NLet && kid == 1:
		return []name{{e.ID, 0}}
	case e.Kind == api.NFold && kid == 2:
		return []name{{e.ID, 0}, {e.ID, 1}}
	case e.Kind == api.NMatch && kid > 0:
		return []name{{e.ID, kid - 1}}
	}
	return nil
}

// bounds is what is bound at a node. An element is found by its name, in however many levels it stands.
type bounds struct {
	list   []Bound
	last   map[name]int // how many elements of the list there are up to the last one with a name
	hidden []int        // for each element of the list, what last had for its name before
}

// enter adds what is bound further inside.
func (b *bounds) enter(more ...Bound) {
	for _, x := range more {
		v := name{x.ID, x.N}
		b.hidden = append(b.hidden, b.last[v])
		b.list = append(b.list, x)
		b.last[v] = len(b.list)
	}
}

// leave takes back what was added last.
func (b *bounds) leave(more ...Bound) {
	for range more {
		at := len(b.list) - 1
		b.last[name{b.list[at].ID, b.list[at].N}] = b.hidden[at]
		b.list, b.hidden = b.list[:at], b.hidden[:at]
	}
}

// find returns the type that is bound for a variable; false, if there is none.
func (b *bounds) find(e *api.Expr) (api.Type, bool) {
	n := b.last[name{e.Ref, e.N}]
	if n == 0 {
		return api.Type{}, false
	}
	return b.list[n-1].Type, true
}
