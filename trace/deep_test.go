package trace_test

import (
	"math"
	"slices"
	"testing"

	"splicery/api"
	"splicery/trace"
)

const levels = 1 << 16

// at returns the ID of a level, or of a definition.
func at(i int) api.ID { return api.ID{Shop: 3, Seq: i} }

// from returns the IDs of so many levels, from one on.
func from(i, n int) []api.ID {
	var l []api.ID
	for range n {
		l = append(l, at(i))
		i++
	}
	return l
}

// deep returns an expression of many levels, each of which a function makes of the one below it, around another one. The levels have numbers from 1, the outermost one, on; other nodes have the ID 5.
func deep(e api.Expr, level func(i int, e api.Expr) api.Expr) api.Expr {
	e.ID = id(5)
	for i := levels; i > 0; i-- {
		e = level(i, e)
		for j := range e.Kids {
			if e.Kids[j].ID == (api.ID{}) {
				e.Kids[j].ID = id(5)
			}
			for k := range e.Kids[j].Kids {
				if e.Kids[j].Kids[k].ID == (api.ID{}) {
					e.Kids[j].Kids[k].ID = id(5)
				}
			}
		}
		e.ID = at(i)
	}
	return e
}

// TestDeep has expressions of 2^16 levels of each kind that has kids: all levels are asked, as far as the fuel goes, and a change of the innermost one is found.
func TestDeep(t *testing.T) {
	ref := func(i, n int) api.Expr { return api.Expr{Kind: api.NVar, Ref: at(i), N: n} }
	for what, x := range map[string]struct {
		inner api.Expr
		level func(i int, e api.Expr) api.Expr
		each  int // steps of a level
	}{
		"first operands":      {num(5), func(i int, e api.Expr) api.Expr { return op(api.Add, e, num(1)) }, 2},
		"second operands":     {num(5), func(i int, e api.Expr) api.Expr { return op(api.Sub, num(1), e) }, 2},
		"nots":                {is(1), func(i int, e api.Expr) api.Expr { return op(api.Not, e) }, 1},
		"calls":               {num(5), func(i int, e api.Expr) api.Expr { return call(20, e) }, 2},
		"conditions":          {is(1), func(i int, e api.Expr) api.Expr { return cond(e, is(0), is(1)) }, 2},
		"first branches":      {num(5), func(i int, e api.Expr) api.Expr { return cond(is(1), e, num(6)) }, 2},
		"second branches":     {num(5), func(i int, e api.Expr) api.Expr { return cond(is(0), num(6), e) }, 2},
		"lets":                {ref(1, 0), func(i int, e api.Expr) api.Expr { return let(0, num(i), e) }, 2},
		"values of lets":      {num(5), func(i int, e api.Expr) api.Expr { return let(0, e, ref(i, 0)) }, 2},
		"fields":              {num(5), func(i int, e api.Expr) api.Expr { return field(21, 0, rec(21, e)) }, 2},
		"matches":             {num(5), func(i int, e api.Expr) api.Expr { return match(0, 22, one(22, 1, e), num(6), ref(i, 1)) }, 3},
		"branches of matches": {ref(7, 1), func(i int, e api.Expr) api.Expr { return match(0, 22, one(22, 1, num(i)), num(6), e) }, 3},
		"lists":               {num(5), func(i int, e api.Expr) api.Expr { return op(api.Len, list(whole, e, num(6))) }, 3},
		"lists of folds":      {nums(5), func(i int, e api.Expr) api.Expr { return fold(0, e, num(0), list(whole, ref(i, 0))) }, 4},
		"beginnings of folds": {num(5), func(i int, e api.Expr) api.Expr { return fold(0, nums(1), e, ref(i, 1)) }, 4},
		"steps of folds":      {ref(1, 0), func(i int, e api.Expr) api.Expr { return fold(0, nums(i), num(6), e) }, 4},
	} {
		e := deep(x.inner, x.level)
		f := def(20, api.KFun, whole, v(2001), whole)
		f.Body.ID = id(5)
		p := prog(f, def(21, api.KRec, whole, api.Expr{}, whole), def(22, api.KCase, whole, api.Expr{}, whole, whole), api.Def{ID: id(30), Kind: api.KFun, Body: e})
		want := trace.Trace{Defs: ids(30), Nodes: sorted(append(from(1, levels), id(5)))}
		if what == "calls" {
			want.Defs = sorted(ids(20, 30))
		}
		if code := traced(t, "many levels: "+what, p, 30, nil, math.MaxInt, want); code != api.OK {
			t.Errorf("P1: many levels (%s) fail with %d", what, code)
		}
		_, tr, code := trace.Call(p, id(30), nil, levels)
		own := slices.DeleteFunc(slices.Clone(tr.Nodes), func(x api.ID) bool { return x == id(5) })
		if code != api.ErrFuel && x.each > 1 || !slices.Equal(own, from(1, len(own))) || len(own) < levels/x.each {
			t.Errorf("P12.1: many levels (%s) ask %d nodes with little fuel (error %d)", what, len(tr.Nodes), code)
		}
		last := at(levels) // a kid of a kid has the ID that it had, but another content
		q := prog(append(slices.Clone(p.Defs[:3]), api.Def{ID: id(30), Kind: api.KFun, Body: deep(x.inner, func(i int, e api.Expr) api.Expr {
			e = x.level(i, e)
			if i == levels {
				e.Type = truth
			}
			return e
		})})...)
		if l := trace.Changed(p, q); !slices.Equal(l, []api.ID{last}) {
			t.Errorf("P12.4: many levels (%s) change %v", what, l)
		}
		if l := trace.Changed(p, prog(p.Defs[:3]...)); len(l) != levels+1 {
			t.Errorf("P12.4: of many levels (%s) %d change with their definition", what, len(l))
		}
	}
}

// TestDeepLimits has values of many levels, which are too deep at the 25th one from within, when all of them have begun.
func TestDeepLimits(t *testing.T) {
	want := trace.Trace{Defs: ids(30), Nodes: sorted(append(from(1, levels), id(5)))}
	for what, level := range map[string]func(i int, e api.Expr) api.Expr{
		"lists":   func(i int, e api.Expr) api.Expr { return list(whole, e) },
		"cases":   func(i int, e api.Expr) api.Expr { return one(22, 0, e) },
		"records": func(i int, e api.Expr) api.Expr { return rec(21, e) },
	} {
		p := prog(api.Def{ID: id(30), Kind: api.KFun, Body: deep(num(5), level)}, def(21, api.KRec, whole, api.Expr{}, whole), def(22, api.KCase, whole, api.Expr{}, whole))
		if code := traced(t, "values of many levels: "+what, p, 30, nil, plenty, want); code != api.ErrLimit {
			t.Errorf("P12.1: values of many levels (%s) fail with %d", what, code)
		}
	}
}

// TestDeepTypes has types of many levels, in slots, results and nodes: a change of the innermost one is found.
func TestDeepTypes(t *testing.T) {
	nest := func(inner api.Type) api.Type {
		for range levels {
			inner = listOf(inner)
		}
		return inner
	}
	one, two := nest(whole), nest(of(3))
	make := func(slot, result, node api.Type) api.Prog {
		return prog(api.Def{ID: id(1), Kind: api.KFun, Slots: []api.Slot{{Type: slot}}, Result: result, Body: api.Expr{ID: id(2), Kind: api.NList, Type: node}}, def(3, api.KRec, whole, num(1)))
	}
	changes := func(what string, p, q api.Prog, want ...api.ID) {
		if l := trace.Changed(p, q); !slices.Equal(l, want) {
			t.Errorf("P12.4: %s of many levels: %v change", what, l)
		}
	}
	p := make(one, one, one)
	changes("types", p, make(nest(whole), nest(whole), nest(whole)))
	changes("a slot", p, make(two, one, one), id(1))
	changes("a result", p, make(one, two, one), id(1))
	changes("a node", p, make(one, one, two), id(2))
	// Such a type is not valid, so that nothing is a value of it.
	if _, tr, code := trace.Call(make(two, one, one), id(1), args(values()), plenty); code != api.ErrArg || !same(tr, trace.Trace{}) {
		t.Errorf("P12.1: a slot with a type of many levels: %v (error %d)", tr, code)
	}
}

// TestMany has many definitions, which call one another or whose slots name one another, and traces with many IDs.
func TestMany(t *testing.T) {
	var p api.Prog
	for i := range levels {
		d := api.Def{ID: at(i), Kind: api.KCase, Slots: []api.Slot{{ID: id(7)}}} // a variant of a number and of the one before it
		if i > 0 {
			d.Slots = append(d.Slots, api.Slot{ID: id(8), Type: listOf(api.Type{Kind: api.TDef, Def: at(i - 1)})})
		}
		p.Defs = append(p.Defs, d)
	}
	f := api.Def{ID: id(30), Kind: api.KFun, Slots: []api.Slot{{ID: id(31), Type: api.Type{Kind: api.TDef, Def: at(levels - 1)}}}, Body: api.Expr{ID: id(5)}}
	p.Defs = append(p.Defs, f)
	want := trace.Trace{Defs: sorted(append(from(0, levels), id(30))), Nodes: ids(5)}
	traced(t, "a chain of many types", p, 30, args(variant(0, number(1))), plenty, want)
	p.Defs[0].Slots = append(p.Defs[0].Slots, api.Slot{ID: id(8), Type: api.Type{Kind: api.TDef, Def: at(levels - 1)}})
	traced(t, "a circle of many types", p, 30, args(variant(0, number(1))), plenty, want)
	if l := trace.Changed(p, prog()); !slices.Equal(l, sorted(append(from(0, levels), ids(5, 30)...))) {
		t.Errorf("P12.4: of many definitions %d change", len(l))
	}

	p = api.Prog{}
	for i := range levels {
		e := api.Expr{ID: at(i)}
		if i > 0 {
			e = api.Expr{ID: at(i), Kind: api.NCall, Ref: at(i - 1)}
		}
		p.Defs = append(p.Defs, api.Def{ID: at(i), Kind: api.KFun, Body: e})
	}
	all := from(0, levels)
	for _, fuel := range []int{0, 1, 1000, levels - 1, levels, plenty} {
		n := min(fuel, levels)
		v, tr, code := trace.Call(p, at(levels-1), nil, fuel)
		// When a node is evaluated that calls, the definition that it names has been asked, too.
		if want := (trace.Trace{Defs: all[max(levels-1-n, 0):], Nodes: all[levels-n:]}); !same(tr, want) || (code == api.OK) != (n == levels) || !equal(v, api.Value{}) {
			t.Errorf("P12.1: a chain of many calls asks %d definitions and %d nodes with the fuel %d (error %d)", len(tr.Defs), len(tr.Nodes), fuel, code)
		}
	}
	last := changedBy(p, func(q *api.Prog) { q.Defs[0].Body.N = 1 })
	if l := trace.Changed(p, last); !slices.Equal(l, all[:1]) {
		t.Errorf("P12.4: of many definitions %v change", l)
	}

	a, b := trace.Trace{Defs: reversed(all), Nodes: all}, trace.Trace{Defs: from(levels/2, levels), Nodes: from(-levels, 2*levels)}
	if both := trace.Join(a, b); !same(both, trace.Trace{Defs: from(0, levels/2+levels), Nodes: from(-levels, 2*levels)}) {
		t.Errorf("P12.2: traces with many IDs have %d definitions and %d nodes together", len(both.Defs), len(both.Nodes))
	}
	if trace.Asks(a, from(levels, levels)) || !trace.Asks(a, from(levels-1, levels)) || !trace.Asks(a, reversed(from(1-levels, levels))) {
		t.Errorf("P12.3: a trace with many IDs asks others, or not the last ones")
	}
}

// TestDeepCalls has 32 definitions that call one another, each with a body of 2^16 levels.
func TestDeepCalls(t *testing.T) {
	var p api.Prog
	want := trace.Trace{}
	for i := range api.MaxDefs {
		inner := num(5)
		if i > 0 {
			inner = api.Expr{Kind: api.NCall, Ref: id(100 + i - 1)}
		}
		p.Defs = append(p.Defs, api.Def{ID: id(100 + i), Kind: api.KFun, Body: deep(inner, func(i int, e api.Expr) api.Expr { return let(0, num(1), e) })})
		want.Defs = append(want.Defs, id(100+i))
	}
	want = trace.Trace{Defs: sorted(want.Defs), Nodes: sorted(append(from(1, levels), id(5)))}
	v, tr, code := trace.Call(p, id(100+api.MaxDefs-1), nil, api.MaxDefs*(2*levels+1))
	if !equal(v, number(5)) || !same(tr, want) || code != api.OK {
		t.Errorf("P1: definitions of many levels are %+v and ask %d definitions and %d nodes (error %d)", v, len(tr.Defs), len(tr.Nodes), code)
	}
}
