package types_test

import (
	"testing"

	"splicery/api"
	"splicery/types"
)

const levels = 1 << 16

// at returns the ID of a node of a level.
func at(i, n int) api.ID { return api.ID{Shop: 3, Seq: i, Index: n} }

// deep returns an expression of many levels, each of which a function makes of the one below it, around an expression. The levels have numbers from 1, the outermost one, on.
func deep(e api.Expr, level func(i int, e api.Expr) api.Expr) api.Expr {
	for i := levels; i > 0; i-- {
		e = level(i, e)
		e.ID = at(i, 0)
	}
	return e
}

// TestDeep has expressions of 2^16 levels of each kind that has kids.
func TestDeep(t *testing.T) {
	outer := []types.Bound{{ID: id(1)}, {ID: id(2), Type: of(recP)}, {ID: id(3), Type: of(caseS)}, {ID: id(4), Type: listOf(whole)}}
	p := world()
	p.Defs = append(p.Defs, api.Def{ID: id(50), Kind: api.KFun, Slots: slots(whole), Result: whole}, api.Def{ID: id(51), Kind: api.KRec, Slots: slots(of(51))}, api.Def{ID: id(52), Kind: api.KCase, Slots: slots(of(52))})
	numbers := v(0, 1)
	ref := func(i int) api.Expr { return api.Expr{ID: at(i, 1), Kind: api.NVar, Ref: at(i-1, 0)} }
	last := api.Expr{ID: id(100), Kind: api.NVar, Ref: at(levels, 0)}
	for what, x := range map[string]struct {
		inner api.Expr
		level func(i int, e api.Expr) api.Expr
		want  api.Type
		more  int // how many names each level binds
	}{
		"operations":      {num(100), func(i int, e api.Expr) api.Expr { return op(0, api.Add, e, numbers) }, whole, 0},
		"second operands": {num(100), func(i int, e api.Expr) api.Expr { return op(0, api.Add, numbers, e) }, whole, 0},
		"nots":            {yes(100), func(i int, e api.Expr) api.Expr { return op(0, api.Not, e) }, truth, 0},
		"joins":           {v(100, 4), func(i int, e api.Expr) api.Expr { return op(0, api.Join, v(0, 4), e) }, listOf(whole), 0},
		"calls":           {num(100), func(i int, e api.Expr) api.Expr { return call(0, 50, e) }, whole, 0},
		"conditions":      {yes(100), func(i int, e api.Expr) api.Expr { return cond(0, e, yes(0), yes(0)) }, truth, 0},
		"second parts":    {v(100, 2), func(i int, e api.Expr) api.Expr { return cond(0, yes(0), v(0, 2), e) }, of(recP), 0},
		"lets":            {last, func(i int, e api.Expr) api.Expr { return let(0, numbers, e) }, whole, 1},
		"lets of lets": {last, func(i int, e api.Expr) api.Expr {
			if i == 1 {
				return let(0, numbers, e)
			}
			return let(0, ref(i), e)
		}, whole, 1},
		"lets with one more node": {v(100, 2), func(i int, e api.Expr) api.Expr { return let(0, op(0, api.Less, numbers, numbers), e) }, of(recP), 1},
		"values of lets":          {num(100), func(i int, e api.Expr) api.Expr { return let(0, e, v(0, 3)) }, of(caseS), 0},
		"folds":                   {v(100, 1), func(i int, e api.Expr) api.Expr { return fold(0, v(0, 4), numbers, e) }, whole, 2},
		"matches":                 {v(100, 1), func(i int, e api.Expr) api.Expr { return match(0, caseS, v(0, 3), numbers, e, numbers) }, whole, 1},
		"fields":                  {v(100, 5), func(i int, e api.Expr) api.Expr { return field(0, 51, 0, e) }, of(51), 0},
		"records":                 {v(100, 5), func(i int, e api.Expr) api.Expr { return rec(0, 51, e) }, of(51), 0},
		"cases":                   {v(100, 6), func(i int, e api.Expr) api.Expr { return one(0, 52, 0, e) }, of(52), 0},
		"lists": {num(100), func(i int, e api.Expr) api.Expr {
			if i%2 == 0 {
				return list(0, whole, e)
			}
			return op(0, api.Len, e)
		}, whole, 0},
	} {
		l := append(outer[:4:4], types.Bound{ID: id(5), Type: of(51)}, types.Bound{ID: id(6), Type: of(52)})
		e := deep(x.inner, x.level)
		if got, n, code := types.Infer(p, l, e); !sameType(got, x.want) || code != api.OK {
			t.Errorf("P1: many levels (%s) have the type %v, %d at %v", what, got, code, n)
		}
		around, node, ok := types.Inside(p, l, e, id(100))
		if len(around) != len(l)+levels*x.more || node.Kind != x.inner.Kind || node.ID != id(100) || !ok {
			t.Errorf("P1: inside of many levels (%s) is %+v, and %d names are bound", what, node, len(around))
		}
		free := types.Free(e)
		for _, y := range free {
			if y.ID.Shop == 3 || len(free) > 4 {
				t.Fatalf("P1: in many levels (%s) there are free %d variables, with %v", what, len(free), y)
			}
		}
		if got, n, code := types.Infer(p, l, deep(op(100, 12), x.level)); n != id(100) || code != api.ErrType || len(got.Kids) > 0 {
			t.Errorf("P1: many levels (%s) around a wrong node have the error %d at %v", what, code, n)
		}
	}
}

// TestDeepResults has what returns a whole expression of 2^16 levels, or looks for an ID in vain.
func TestDeepResults(t *testing.T) {
	e := deep(num(100), func(i int, e api.Expr) api.Expr { return op(0, api.Add, num(0), e) })
	if n, code := types.Fits(world(), nil, e, truth); n != e.ID || code != api.ErrType {
		t.Errorf("P1: many levels have the error %d at %v", code, n)
	}
	if n, code := types.Fits(world(), nil, e, whole); n != (api.ID{}) || code != api.OK {
		t.Errorf("P1: many levels do not fit: %d at %v", code, n)
	}
	if _, node, ok := types.Inside(world(), nil, e, e.ID); !ok || len(idsIn(node)) != 2*levels+1 {
		t.Error("P1: many levels are not found")
	}
	if _, _, ok := types.Inside(world(), nil, e, id(999)); ok {
		t.Error("P1: in many levels an ID is found that no node has")
	}
}

// idsIn returns the IDs of the nodes of an expression, level by level.
func idsIn(e api.Expr) []api.ID {
	var l []api.ID
	for level := []api.Expr{e}; len(level) > 0; {
		var below []api.Expr
		for _, x := range level {
			l = append(l, x.ID)
			below = append(below, x.Kids...)
		}
		level = below
	}
	return l
}

// TestDeepTypes has types of 2^16 levels.
func TestDeepTypes(t *testing.T) {
	x, y := whole, truth
	for range levels {
		x, y = listOf(x), listOf(y)
	}
	p, l := world(), []types.Bound{{ID: id(1), Type: x}, {ID: id(2), Type: x}, {ID: id(3), Type: y}}
	if got, _, code := types.Infer(p, l, cond(10, yes(11), v(12, 1), v(13, 2))); code != api.OK || !sameType(got, x) {
		t.Errorf("P1: types of many levels are different: %d", code)
	}
	if _, n, code := types.Infer(p, l, cond(10, yes(11), v(12, 1), v(13, 3))); n != id(13) || code != api.ErrType {
		t.Errorf("P1: types of many levels are equal: %d", code)
	}
	if _, n, code := types.Infer(p, l, list(10, x)); n != id(10) || code != api.ErrDead {
		t.Errorf("P1: a type of many levels is valid: %d", code)
	}
	if _, code := types.Fits(p, l, v(10, 1), x); code != api.OK {
		t.Errorf("P1: a type of many levels does not fit: %d", code)
	}
	e := fold(10, v(11, 1), num(12), num(13))
	if around, _, ok := types.Inside(p, l, e, id(13)); !ok || len(around) != 5 || !sameType(around[3].Type, x.Kids[0]) {
		t.Error("P1: a type of many levels is not bound")
	}
}

// TestWide has nodes with many kids, and programs with many definitions.
func TestWide(t *testing.T) {
	var p api.Prog
	kids := make([]api.Expr, levels)
	for i := range kids {
		p.Defs = append(p.Defs, api.Def{ID: at(i, 0), Kind: api.KFun, Result: truth}, api.Def{ID: at(i, 0), Kind: api.KRec})
		kids[i] = api.Expr{ID: at(i, 1), Kind: api.NCall, Ref: at(i, 0)}
	}
	e := list(1, truth, kids...)
	if got, n, code := types.Infer(p, nil, e); !sameType(got, listOf(truth)) || code != api.OK {
		t.Errorf("P1: a list of many calls has the type %v, %d at %v", got, code, n)
	}
	last := &kids[levels-1]
	if _, node, ok := types.Inside(p, nil, e, last.ID); !ok || node.Ref != last.Ref {
		t.Errorf("P1: the last one of many kids is not found: %+v", node)
	}
	for i := range kids {
		kids[i] = api.Expr{ID: at(i, 1), Kind: api.NVar, Ref: at(levels-i, 0)}
	}
	free := types.Free(e)
	for i, x := range free {
		if x.ID != at(1+i, 0) {
			t.Fatalf("P1: the %d. of many free variables is %v", i, x)
		}
	}
	if _, n, code := types.Infer(p, free[1:], e); len(free) != levels || n != kids[0].ID && n != last.ID || code == api.OK {
		t.Errorf("P1: many variables have the error %d at %v", code, n)
	}
}
