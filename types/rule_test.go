package types_test

import (
	"slices"

	"splicery/api"
	"splicery/types"
)

// firstDef returns the definition with an ID by the words of the chapter.
func firstDef(p api.Prog, n api.ID) (api.Def, bool) {
	i := slices.IndexFunc(p.Defs, func(d api.Def) bool { return d.ID == n })
	if i < 0 {
		return api.Def{}, false
	}
	return p.Defs[i], true
}

// validByRule reports whether a type is valid by the words of layer 4.
func validByRule(p api.Prog, t api.Type, depth int) bool {
	d, ok := firstDef(p, t.Def)
	switch {
	case depth > 24:
		return false
	case t.Kind == 0 || t.Kind == 1:
		return len(t.Kids) == 0 && t.Def == api.ID{}
	case t.Kind == 2:
		return len(t.Kids) == 1 && t.Def == api.ID{} && validByRule(p, t.Kids[0], depth+1)
	}
	return t.Kind == 3 && len(t.Kids) == 0 && ok && (d.Kind == api.KRec || d.Kind == api.KCase)
}

// namedByRule has the kinds of the definitions that a node of a kind names.
func namedByRule(kind int) []int {
	return map[int][]int{api.NCall: {api.KFun, api.KConv}, api.NRec: {api.KRec}, api.NField: {api.KRec}, api.NCase: {api.KCase}, api.NMatch: {api.KCase}}[kind]
}

// boundByRule returns the last element with an ID and a number.
func boundByRule(l []types.Bound, n api.ID, number int) (types.Bound, bool) {
	for _, x := range slices.Backward(l) {
		if x.ID == n && x.N == number {
			return x, true
		}
	}
	return types.Bound{}, false
}

// headByRule returns the error of a node without its kids, by the words of the chapter.
func headByRule(p api.Prog, l []types.Bound, e api.Expr) api.Errno {
	kids, ok := map[int]int{api.NInt: 0, api.NBool: 0, api.NVar: 0, api.NOp: 2, api.NField: 1, api.NCase: 1, api.NIf: 3, api.NLet: 2, api.NFold: 3}[e.Kind]
	if e.Kind == api.NOp && (e.N == api.Not || e.N == api.Len) {
		kids = 1
	}
	switch {
	case e.Kind < 0 || e.Kind > 12,
		ok && kids != len(e.Kids),
		e.Kind == api.NOp && (e.N < 0 || e.N > 11),
		e.Kind == api.NInt && (e.N > 1<<40 || e.N < -1<<40),
		e.Kind == api.NBool && e.N != 0 && e.N != 1:
		return api.ErrType
	}
	_, bound := boundByRule(l, e.Ref, e.N)
	d, known := firstDef(p, e.Ref)
	right := namedByRule(e.Kind)
	switch {
	case e.Kind == api.NVar && !bound, e.Kind == api.NList && !validByRule(p, e.Type, 1), right != nil && (!known || !slices.Contains(right, d.Kind)):
		return api.ErrDead
	}
	switch n := len(d.Slots); {
	case e.Kind == api.NCall && len(e.Kids) != n,
		e.Kind == api.NRec && len(e.Kids) != n,
		e.Kind == api.NMatch && (n == 0 || len(e.Kids) != n+1),
		(e.Kind == api.NField || e.Kind == api.NCase) && (e.N < 0 || e.N >= n):
		return api.ErrType
	}
	return api.OK
}

// demand is what the type of a kid must be: any one, that of a list, that of the kid like, or the type t.
type demand struct {
	any, list bool
	like      int
	t         api.Type
}

func (d demand) accepts(before []api.Type, t api.Type) bool {
	switch {
	case d.any:
		return true
	case d.list:
		return t.Kind == api.TList && len(t.Kids) == 1
	case d.like >= 0:
		return sameType(t, before[d.like])
	}
	return sameType(t, d.t)
}

// demandsByRule returns the demands for the kids of a node whose shape is right.
func demandsByRule(p api.Prog, e api.Expr) []demand {
	be := func(t api.Type) demand { return demand{like: -1, t: t} }
	any, list, self := demand{any: true}, demand{list: true}, be(api.Type{Kind: api.TDef, Def: e.Ref})
	like0, like1 := demand{like: 0}, demand{like: 1}
	d, _ := firstDef(p, e.Ref)
	var ofSlots []demand
	for _, s := range d.Slots {
		ofSlots = append(ofSlots, be(s.Type))
	}
	switch e.Kind {
	case api.NCall, api.NRec:
		return ofSlots
	case api.NField:
		return []demand{self}
	case api.NCase:
		return []demand{ofSlots[e.N]}
	case api.NMatch:
		return append([]demand{self, any}, slices.Repeat([]demand{like1}, len(e.Kids)-2)...)
	case api.NList:
		return slices.Repeat([]demand{be(e.Type)}, len(e.Kids))
	case api.NIf:
		return []demand{be(truth), any, like1}
	case api.NLet:
		return []demand{any, any}
	case api.NFold:
		return []demand{list, any, like1}
	case api.NOp:
		return map[int][]demand{
			api.Same: {any, like0}, api.And: {be(truth), be(truth)}, api.Or: {be(truth), be(truth)}, api.Not: {be(truth)}, api.Join: {list, like0}, api.Len: {list},
			api.Add: {be(whole), be(whole)}, api.Sub: {be(whole), be(whole)}, api.Mul: {be(whole), be(whole)}, api.Div: {be(whole), be(whole)}, api.Rem: {be(whole), be(whole)}, api.Less: {be(whole), be(whole)},
		}[e.N]
	}
	return nil
}

// bindsByRule returns what a node binds in a kid, where before has the types of the kids before it.
func bindsByRule(p api.Prog, e api.Expr, kid int, before []api.Type) []types.Bound {
	switch {
	case e.Kind == api.NLet && kid == 1:
		return []types.Bound{{ID: e.ID, Type: before[0]}}
	case e.Kind == api.NFold && kid == 2:
		return []types.Bound{{ID: e.ID, Type: before[0].Kids[0]}, {ID: e.ID, N: 1, Type: before[1]}}
	case e.Kind == api.NMatch && kid >= 1:
		d, _ := firstDef(p, e.Ref)
		return []types.Bound{{ID: e.ID, N: kid - 1, Type: d.Slots[kid-1].Type}}
	}
	return nil
}

// typeByRule returns the type of a node that is right, where kids has the types of its kids.
func typeByRule(p api.Prog, l []types.Bound, e api.Expr, kids []api.Type) api.Type {
	d, _ := firstDef(p, e.Ref)
	switch e.Kind {
	case api.NBool:
		return truth
	case api.NVar:
		b, _ := boundByRule(l, e.Ref, e.N)
		return b.Type
	case api.NCall:
		return d.Result
	case api.NIf, api.NLet, api.NMatch, api.NFold:
		return kids[1]
	case api.NRec, api.NCase:
		return api.Type{Kind: api.TDef, Def: e.Ref}
	case api.NField:
		return d.Slots[e.N].Type
	case api.NList:
		return listOf(e.Type)
	case api.NOp:
		if e.N == api.Join {
			return kids[0]
		}
		if e.N >= api.Less && e.N <= api.Not {
			return truth
		}
	}
	return whole
}

// kidsByRule examines a node with its first n kids, and returns their types.
func kidsByRule(p api.Prog, l []types.Bound, e api.Expr, n int) ([]api.Type, api.ID, api.Errno) {
	if code := headByRule(p, l, e); code != api.OK {
		return nil, e.ID, code
	}
	var before []api.Type
	demands := demandsByRule(p, e)
	for i, kid := range e.Kids[:n] {
		t, id, code := inferByRule(p, slices.Concat(l, bindsByRule(p, e, i, before)), kid)
		if code != api.OK {
			return nil, id, code
		}
		if !demands[i].accepts(before, t) {
			return nil, kid.ID, api.ErrType
		}
		before = append(before, t)
	}
	return before, api.ID{}, api.OK
}

// inferByRule returns what Infer has to return.
func inferByRule(p api.Prog, l []types.Bound, e api.Expr) (api.Type, api.ID, api.Errno) {
	kids, id, code := kidsByRule(p, l, e, len(e.Kids))
	if code != api.OK {
		return api.Type{}, id, code
	}
	return typeByRule(p, l, e, kids), api.ID{}, api.OK
}

// pathsByRule returns the places of the kids on the way to each node of an expression, in preorder.
func pathsByRule(e api.Expr) [][]int {
	l := [][]int{nil}
	for i, kid := range e.Kids {
		for _, path := range pathsByRule(kid) {
			l = append(l, append([]int{i}, path...))
		}
	}
	return l
}

// nodeAt returns the node at the end of a path.
func nodeAt(e api.Expr, path []int) api.Expr {
	for _, i := range path {
		e = e.Kids[i]
	}
	return e
}

// insideByRule returns what Inside has to return.
func insideByRule(p api.Prog, l []types.Bound, e api.Expr, id api.ID) ([]types.Bound, api.Expr, bool) {
	paths := pathsByRule(e)
	first := slices.IndexFunc(paths, func(path []int) bool { return nodeAt(e, path).ID == id })
	if first < 0 {
		return nil, api.Expr{}, false
	}
	for _, i := range paths[first] {
		before, _, code := kidsByRule(p, l, e, i)
		if code != api.OK {
			return nil, api.Expr{}, false
		}
		l = slices.Concat(l, bindsByRule(p, e, i, before))
		e = e.Kids[i]
	}
	return l, e, true
}

// freeByRule returns what Free has to return: an NVar on the way to which no node with the ID Ref binds its name.
func freeByRule(e api.Expr) []types.Bound {
	var l []types.Bound
	for _, path := range pathsByRule(e) {
		v, around := e, true
		for i, kid := range path {
			around = around && v.Kind != api.NVar
			end := nodeAt(e, path)
			binds := map[int]bool{api.NLet: kid == 1 && end.N == 0, api.NFold: kid == 2 && (end.N == 0 || end.N == 1), api.NMatch: kid >= 1 && end.N == kid-1}
			around = around && !(v.ID == end.Ref && binds[v.Kind])
			v = nodeAt(e, path[:i+1])
		}
		if v.Kind == api.NVar && around {
			l = append(l, types.Bound{ID: v.Ref, N: v.N})
		}
	}
	slices.SortFunc(l, func(a, b types.Bound) int {
		return slices.Compare([]int{a.ID.Shop, a.ID.Seq, a.ID.Index, a.N}, []int{b.ID.Shop, b.ID.Seq, b.ID.Index, b.N})
	})
	return slices.CompactFunc(l, sameBound)
}
