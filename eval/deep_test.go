package eval_test

import (
	"slices"
	"testing"

	"splicery/api"
	"splicery/eval"
)

const levels = 1 << 16

// at returns the ID of a level, or of a definition.
func at(i int) api.ID { return api.ID{Shop: 3, Seq: i} }

// deep returns an expression of many levels, each of which a function makes of the one below it, around another one. The levels have numbers from 1, the outermost one, on.
func deep(e api.Expr, level func(i int, e api.Expr) api.Expr) api.Expr {
	for i := levels; i > 0; i-- {
		e = level(i, e)
		e.ID = at(i)
	}
	return e
}

// TestDeep has expressions of 2^16 levels of each kind that has kids.
func TestDeep(t *testing.T) {
	p := with(
		def(20, api.KFun, whole, v(2001), whole),
		def(21, api.KRec, whole, api.Expr{}, whole),
		def(22, api.KCase, whole, api.Expr{}, whole, whole),
	)
	ref := func(i int) api.Expr { return api.Expr{Kind: api.NVar, Ref: at(i)} }
	for what, x := range map[string]struct {
		inner api.Expr
		level func(i int, e api.Expr) api.Expr
		want  api.Value
		steps int // of a level
		bound int // of a level
	}{
		"first operands":  {num(5), func(i int, e api.Expr) api.Expr { return op(api.Add, e, num(1)) }, number(5 + levels), 2, 2},
		"second operands": {num(5), func(i int, e api.Expr) api.Expr { return op(api.Sub, num(1), e) }, number(5), 2, 2},
		"nots":            {is(1), func(i int, e api.Expr) api.Expr { return op(api.Not, e) }, boolean(true), 1, 1},
		"joins":           {nums(1), func(i int, e api.Expr) api.Expr { return op(api.Join, nums(), e) }, numbers(1), 2, 2},
		"calls":           {num(5), func(i int, e api.Expr) api.Expr { return call(20, e) }, number(5), 2, 2},
		"conditions":      {is(1), func(i int, e api.Expr) api.Expr { return cond(e, is(0), is(1)) }, boolean(true), 2, 2},
		"first branches":  {num(5), func(i int, e api.Expr) api.Expr { return cond(is(1), e, num(6)) }, number(5), 2, 2},
		"second branches": {num(5), func(i int, e api.Expr) api.Expr { return cond(is(0), num(6), e) }, number(5), 2, 2},
		"lets":            {ref(1), func(i int, e api.Expr) api.Expr { return let(0, num(i), e) }, number(1), 2, 2},
		"lets of lets": {ref(levels), func(i int, e api.Expr) api.Expr {
			if i == 1 {
				return let(0, num(5), e)
			}
			return let(0, ref(i-1), e)
		}, number(5), 2, 2},
		"values of lets": {num(5), func(i int, e api.Expr) api.Expr { return let(0, e, ref(i)) }, number(5), 2, 2},
		"fields":         {num(5), func(i int, e api.Expr) api.Expr { return field(21, 0, rec(21, e)) }, number(5), 2, 2},
		"matches": {num(5), func(i int, e api.Expr) api.Expr {
			return match(0, 22, one(22, 1, e), num(6), api.Expr{Kind: api.NVar, Ref: at(i), N: 1})
		}, number(5), 3, 3},
		"branches of matches": {api.Expr{Kind: api.NVar, Ref: at(7), N: 1}, func(i int, e api.Expr) api.Expr { return match(0, 22, one(22, 1, num(i)), num(6), e) }, number(7), 3, 3},
		"lists":               {num(5), func(i int, e api.Expr) api.Expr { return op(api.Len, list(whole, e, num(6))) }, number(2), 3, 3},
		"lists of folds": {nums(5), func(i int, e api.Expr) api.Expr {
			return fold(0, e, nums(), list(whole, api.Expr{Kind: api.NVar, Ref: at(i)}))
		}, numbers(5), 4, -1},
		"beginnings of folds": {num(5), func(i int, e api.Expr) api.Expr {
			return fold(0, nums(1), e, api.Expr{Kind: api.NVar, Ref: at(i), N: 1})
		}, number(5), 4, -1},
		"steps of folds": {ref(1), func(i int, e api.Expr) api.Expr { return fold(0, nums(i), num(6), e) }, number(1), 4, -1},
	} {
		e := deep(x.inner, x.level)
		_, inner, _ := eval.Expr(p, x.inner, plenty)
		all := inner + levels*x.steps
		for _, run := range []runner{expr(p, e), func(fuel int) (api.Value, int, api.Errno) {
			return eval.Call(prog(append(p.Defs, def(30, api.KFun, whole, e))...), id(30), nil, fuel)
		}} {
			if v, n, code := run(all); !equal(v, x.want) || n != all || code != api.OK {
				t.Errorf("P1: many levels (%s) have the value %+v after %d steps (error %d), not %+v after %d", what, v, n, code, x.want, all)
			}
			for _, fuel := range []int{all - 1, levels, levels - 1} {
				fails(t, "many levels: "+what, run, fuel, api.ErrFuel)
			}
		}
		want := levels*x.bound + inner
		if x.bound < 0 {
			want = -1
		}
		if n := eval.Most(prog(append(p.Defs, def(30, api.KFun, whole, e))...), id(30)); n != want {
			t.Errorf("P1: many levels (%s) have the bound %d, not %d", what, n, want)
		}
	}
	// A value of many levels is too deep at its 25th one from within, when all of them have begun.
	e := deep(num(5), func(i int, e api.Expr) api.Expr { return list(whole, e) })
	failsAfter(t, "lists of many levels", expr(p, e), levels+1, api.ErrLimit)
	e = deep(num(5), func(i int, e api.Expr) api.Expr { return one(22, 0, e) })
	failsAfter(t, "cases of many levels", expr(p, e), levels+1, api.ErrLimit)
	e = deep(num(5), func(i int, e api.Expr) api.Expr { return rec(recP, e, is(1)) })
	failsAfter(t, "records of many levels", expr(p, e), levels+25, api.ErrLimit)
	e = deep(call(none), func(i int, e api.Expr) api.Expr { return op(api.Not, e) })
	fails(t, "many levels around a call of nothing", expr(p, e), levels, api.ErrFuel)
}

// TestDeepCalls has definitions that call one another: so their levels add up.
func TestDeepCalls(t *testing.T) {
	var p api.Prog
	for i := range levels {
		d := def(0, api.KFun, whole, num(0), whole)
		d.ID, d.Slots[0].ID = at(i), at(-1)
		d.Body = api.Expr{Kind: api.NVar, Ref: at(-1)}
		if i > 0 {
			d.Body = op(api.Sub, api.Expr{Kind: api.NCall, Ref: at(i - 1), Kids: []api.Expr{op(api.Add, d.Body, num(1))}}, d.Body)
		}
		p.Defs = append(p.Defs, d)
	}
	slices.Reverse(p.Defs)
	last := at(levels - 1)
	// Each one has the value of the one before it for n + 1, less n: the value is 5 + 2^16 - 1, less 5, less 6, and so on, in turn.
	want := 5 + levels - 1
	for i := levels - 1; i > 0; i-- {
		want -= 5 + i - 1
	}
	all := 1 + 6*(levels-1)
	gives(t, "a call of many definitions", func(fuel int) (api.Value, int, api.Errno) {
		return eval.Call(p, last, []api.Value{number(5)}, fuel)
	}, number(want), all)
	if n := eval.Most(p, last); n != all {
		t.Errorf("P11.4: many definitions have the bound %d, not %d", n, all)
	}
	// 32 definitions with a body of 2^16 levels each.
	p = api.Prog{}
	for i := range api.MaxDefs {
		inner := num(5)
		if i > 0 {
			inner = call(i)
		}
		p.Defs = append(p.Defs, def(i+1, api.KFun, whole, deep(inner, func(i int, e api.Expr) api.Expr { return let(0, num(1), e) })))
	}
	all = api.MaxDefs * (2*levels + 1)
	if v, n, code := eval.Call(p, id(api.MaxDefs), nil, all); !equal(v, number(5)) || n != all || code != api.OK {
		t.Errorf("P1: definitions of many levels have the value %+v after %d steps (error %d), not %d", v, n, code, all)
	}
	fails(t, "definitions of many levels", calls(p, api.MaxDefs), all-1, api.ErrFuel)
	if n := eval.Most(p, id(api.MaxDefs)); n != all {
		t.Errorf("P11.4: definitions of many levels have the bound %d, not %d", n, all)
	}
}

// TestWide has nodes with many kids, lists of many steps, and args of many levels.
func TestWide(t *testing.T) {
	large := zeros(levels)
	failsAfter(t, "a list of many elements", expr(api.Prog{}, large), levels+1, api.ErrLimit)
	gives(t, "many elements that are not evaluated", expr(api.Prog{}, cond(is(1), num(1), large)), number(1), 3)
	if n := eval.Most(prog(def(1, api.KFun, listOf(whole), large)), id(1)); n != levels+1 {
		t.Errorf("P11.4: a list of many elements has the bound %d", n)
	}
	l := nums(make([]int, 200)...)
	sum := op(api.Add, nth(11, 1), num(1))
	three := fold(10, l, num(0), op(api.Add, nth(10, 1), fold(11, l, num(0), fold(12, l, nth(11, 1), op(api.Add, nth(12, 1), num(1))))))
	if v, n, code := eval.Expr(api.Prog{}, fold(10, l, num(0), fold(11, l, nth(10, 1), sum)), plenty); !equal(v, number(40000)) || n != 203+200*(203+200*3) || code != api.OK {
		t.Errorf("P11.2: a fold of folds has the value %+v after %d steps (error %d)", v, n, code)
	}
	fails(t, "a fold of folds of folds with little fuel", expr(api.Prog{}, three), 1_000_000, api.ErrFuel)
	v := wrappedValue(number(1), levels)
	p := prog(def(1, api.KFun, whole, num(1), whole), def(2, api.KFun, whole, num(1), listOf(listOf(whole))))
	fails(t, "an arg of many levels", calls(p, 1, v), plenty, api.ErrArg)
	fails(t, "an arg of many levels", calls(p, 2, v), plenty, api.ErrArg)
	if same := eval.Op(api.Same, []api.Value{v, wrappedValue(number(2), levels)}); !equal(same, boolean(false)) {
		t.Errorf("P11.3: values of many levels are the same")
	}
	if both := eval.Op(api.Join, []api.Value{v, v}); len(both.Kids) != 2 || sizeByRule(both) != 2*levels+1 {
		t.Errorf("P11.3: lists of many levels are joined wrongly")
	}
	// One definition of many has a name that all others have, too, or calls many others.
	var many api.Prog
	kids := list(whole)
	for i := range levels {
		d := def(1, api.KFun, whole, num(i))
		d.ID = at(i)
		many.Defs = append(many.Defs, d)
		kids.Kids = append(kids.Kids, api.Expr{Kind: api.NCall, Ref: at(i)})
	}
	failsAfter(t, "a list of calls of many definitions", expr(many, kids), 2*levels+1, api.ErrLimit)
	many.Defs = append(many.Defs, def(1, api.KFun, whole, op(api.Len, kids)))
	if n := eval.Most(many, id(1)); n != 2*levels+2 {
		t.Errorf("P11.4: calls of many definitions have the bound %d", n)
	}
}
