package check_test

import (
	"slices"
	"testing"

	"splicery/api"
	"splicery/check"
)

const levels = 1 << 16

// deepID returns the ID of a node of a level.
func deepID(i, n int) api.ID { return api.ID{Shop: 3, Seq: i, Index: n} }

// deep returns an expression of many levels around another one: sums, lets, calls of the function 1 and lists.
func deep(e api.Expr) api.Expr {
	for i := levels; i > 0; i-- {
		switch i % 4 {
		case 0:
			e = api.Expr{Kind: api.NOp, N: api.Add, Kids: []api.Expr{e, num(1)}}
		case 1:
			e = api.Expr{Kind: api.NLet, Kids: []api.Expr{num(1), e}}
		case 2:
			e = api.Expr{Kind: api.NCall, Ref: id(1), Kids: []api.Expr{e}}
		case 3:
			e = api.Expr{Kind: api.NOp, N: api.Len, Kids: []api.Expr{list(1, whole, e)}}
		}
		e.ID = deepID(i, 0)
	}
	return e
}

// TestDeepBodies has bodies of 2^16 levels.
func TestDeepBodies(t *testing.T) {
	f := def(1, api.KFun, whole, num(150), whole)
	g := def(4, api.KFun, whole, num(450))
	make := func(g api.Def, inner api.Expr) api.Prog {
		return prog(f, g, def(2, api.KFun, whole, deep(inner)), def(3, api.KFun, truth, yes(350)))
	}
	p := make(g, num(100))
	affects(t, "the same body of many levels", p, make(g, num(100)))
	has(t, "a body of many levels", p, 2, api.OK, 0)
	for _, inner := range []api.Expr{num(101), node(100, api.NInt, 6, 0), yes(100), list(100, whole), wrong(100), call(100, 4), call(100, none), node(100, api.NOp, api.Add, 0, num(101), num(102))} {
		affects(t, "a body of many levels with another inner node", p, make(g, inner), 2)
	}
	has(t, "a body of many levels around an error", make(g, wrong(100)), 2, api.ErrType, 100)
	has(t, "a body of many levels around a dead reference", make(g, call(100, none)), 2, api.ErrDead, 100)
	h := g
	h.Result, h.Body = truth, yes(450)
	affects(t, "what the inner node of many levels names", make(g, call(100, 4)), make(h, call(100, 4)), 2, 4)
	affects(t, "what the inner node of many levels names in the type of a list", make(g, list(100, of(4))), make(h, list(100, of(4))), 2, 4)
	affects(t, "what the inner node of many levels does not name", make(g, v(100, 4)), make(h, v(100, 4)), 4)
	for _, kind := range []int{api.KRec, -1} {
		d := def(2, kind, whole, deep(call(100, 4)), whole)
		affects(t, "a body of many levels that does not count", prog(g, d), prog(h, d), 4)
	}
}

// TestDeepTypes has types of 2^16 levels: none is valid, but all of what they name counts.
func TestDeepTypes(t *testing.T) {
	long := func(inner api.Type) api.Type { return levelsOf(inner, levels) }
	x := def(1, api.KRec, whole, api.Expr{}, whole)
	y := def(1, api.KRec, whole, api.Expr{}, truth)
	for what, make := range map[string]struct {
		def func(t api.Type) api.Def
		on  int
	}{
		"a slot":           {func(t api.Type) api.Def { return def(2, api.KRec, whole, api.Expr{}, whole, t) }, 202},
		"a result":         {func(t api.Type) api.Def { return def(2, api.KFun, t, num(250)) }, 2},
		"a list in a body": {func(t api.Type) api.Def { return def(2, api.KTest, listOf(whole), list(250, t)) }, 250},
	} {
		d := make.def(long(of(1)))
		has(t, what+" of a type of many levels", prog(x, d), 2, api.ErrDead, make.on)
		affects(t, what+" of a type of many levels, the same", prog(x, d), prog(x, make.def(long(of(1)))))
		affects(t, what+" of a type of many levels around another one", prog(x, d), prog(x, make.def(long(whole))), 2)
		affects(t, what+" of a type of many levels, one of them less", prog(x, d), prog(x, make.def(long(of(1)).Kids[0])), 2)
		affects(t, what+" of a type of many levels around another definition", prog(x, d), prog(y, d), 1, 2)
		affects(t, what+" of a type of many levels around a definition that is gone", prog(x, d), prog(d), 2)
	}
	has(t, "a result of a record that does not count", prog(def(2, api.KCase, long(whole), api.Expr{}, whole)), 2, api.OK, 0)
	h := handlerOf(whole)
	h.makes[0], h.makes[1] = long(whole), long(whole)
	has(t, "a handler of a record with types of many levels", h.prog(), 20, api.ErrArg, 20)
	wide := api.Type{Kind: 5, Kids: slices.Repeat([]api.Type{truth, {Kind: api.TList}}, levels)}
	wide.Kids = append(wide.Kids, of(1))
	d := def(2, api.KFun, wide, num(250))
	has(t, "a type with many kids", prog(x, d), 2, api.ErrDead, 2)
	affects(t, "a type with many kids, and another definition of the last one", prog(x, d), prog(y, d), 1, 2)
}

// TestWide has programs with many definitions, each of which names the one before it: they are examined in a time that is not that of all pairs.
func TestWide(t *testing.T) {
	var p api.Prog
	for i := range levels {
		d := api.Def{ID: deepID(i, 0), Kind: api.KFun, Slots: []api.Slot{{ID: deepID(i, 1), Type: whole}}}
		d.Body = api.Expr{ID: deepID(i, 2), Kind: api.NCall, Ref: deepID(i-1, 0), Kids: []api.Expr{{ID: deepID(i, 3), Kind: api.NVar, Ref: deepID(i, 1)}}}
		if i == 0 {
			d.Body = num(5)
		}
		p.Defs = append(p.Defs, d)
	}
	if l := check.All(p); len(l) > 0 {
		t.Fatalf("P10.2: many definitions have %d errors, with %+v", len(l), l[0])
	}
	q := api.Prog{Defs: slices.Clone(p.Defs)}
	const n = levels / 2
	q.Defs[n].Result = truth
	want := []api.Conflict{
		{Code: api.ErrType, On: deepID(n, 2), Kind: api.OpKinds, By: []api.ID{deepID(n, 0)}},
		{Code: api.ErrType, On: deepID(n+1, 2), Kind: api.OpKinds, By: []api.ID{deepID(n+1, 0)}},
	}
	if got := check.Affected(p, q); !slices.Equal(got, []api.ID{deepID(n, 0), deepID(n+1, 0)}) {
		t.Errorf("P10.3: of many definitions %d are affected", len(got))
	}
	if l, examined := check.Again(p, q, nil); !same(l, want) || examined != 2 {
		t.Errorf("P10.4: of many definitions %d are examined, with the errors %+v", examined, l)
	}
	if l := check.All(q); !same(l, want) {
		t.Errorf("P10.2: of many definitions All returns %+v", l)
	}
	q.Defs = append(p.Defs, p.Defs...)
	if got := check.Affected(api.Prog{}, q); len(got) != levels {
		t.Errorf("P10.3: of many new definitions %d are affected", len(got))
	}
	if l, examined := check.Again(p, q, []api.Conflict{want[0]}); !same(l, []api.Conflict{want[0], want[0]}) || examined != 0 {
		t.Errorf("P10.4: of many definitions %d are examined, with the errors %+v", examined, l)
	}
	// One definition has many nodes, each of which names another one.
	var kids []api.Expr
	for i := range levels {
		kids = append(kids, api.Expr{ID: deepID(i, 4), Kind: api.NCall, Ref: deepID(i, 0), Kids: []api.Expr{num(6)}})
	}
	q.Defs = append(p.Defs[:levels:levels], def(1, api.KFun, listOf(whole), list(150, whole, kids...)))
	if code, on := check.Def(q, id(1)); code != api.OK {
		t.Errorf("P10.1: a list of many calls has the error %d on %v", code, on)
	}
	r := api.Prog{Defs: slices.Clone(q.Defs)}
	r.Defs[levels-1].Slots = nil
	if got := check.Affected(q, r); !slices.Equal(got, []api.ID{id(1), deepID(levels-1, 0)}) {
		t.Errorf("P10.3: with a list of many calls %v are affected", got)
	}
}
