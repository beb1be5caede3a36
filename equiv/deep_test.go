package equiv_test

import (
	"slices"
	"testing"

	"splicery/api"
	"splicery/equiv"
)

const levels = 1 << 16

// at returns the ID of a level, or of a definition.
func at(i int) api.ID { return api.ID{Shop: 3, Seq: i} }

// name returns a variable of the node of a level.
func name(i, n int) api.Expr { return api.Expr{Kind: api.NVar, Ref: at(i), N: n} }

// deep returns an expression of many levels, each of which a function makes of the one below it, around another one. The levels have numbers from 1, the outermost one, on.
func deep(e api.Expr, level func(i int, e api.Expr) api.Expr) api.Expr {
	for i := levels; i > 0; i-- {
		e = level(i, e)
		e.ID = at(i)
	}
	return e
}

// TestDeep compares bodies of 2^16 levels with themselves, and with those that have something else on the innermost one.
func TestDeep(t *testing.T) {
	a := v(3001)
	for what, level := range map[string]func(i int, e api.Expr) api.Expr{
		"sums":          func(i int, e api.Expr) api.Expr { return add(e, a) },
		"conditions":    func(i int, e api.Expr) api.Expr { return cond(op(api.Less, a, num(-1)), num(1), e) },
		"calls":         func(i int, e api.Expr) api.Expr { return call(f, e, a) },
		"lets of calls": func(i int, e api.Expr) api.Expr { return let(0, call(f, a, a), call(f, name(i, 0), e)) },
		"matches":       func(i int, e api.Expr) api.Expr { return match(0, shape, one(shape, 0, e), call(f, name(i, 0), a), a) },
		"branches": func(i int, e api.Expr) api.Expr {
			return match(0, shape, fold(0, list(of(shape)), one(shape, 0, a), nth(0, 0)), call(f, name(i, 0), e), a)
		},
		"steps of folds":   func(i int, e api.Expr) api.Expr { return fold(0, list(whole, a), a, call(f, name(1, 1), e)) },
		"lengths of lists": func(i int, e api.Expr) api.Expr { return size(list(whole, e)) },
	} {
		t.Run(what, func(t *testing.T) {
			t.Parallel()
			x, y := bodies(deep(a, level), deep(a, level), whole, whole), bodies(deep(a, level), deep(num(3), level), whole, whole)
			x.fuel, y.fuel = 1<<22, 1<<22
			if _, proof, e := x.differ(); e != api.OK || !proof.Normal && x.check(proof) != api.OK {
				t.Errorf("P15.7: %s of many levels: Differ returns the error %d", what, e)
			}
			if e := x.check(split(0, byForms)); e != api.OK {
				t.Errorf("P15.3: %s of many levels: Check of normal forms for 0 returns the error %d", what, e)
			}
			if e := y.check(byForms); e != api.ErrCheck {
				t.Errorf("P15.3: %s of many levels: Check of normal forms returns the error %d", what, e)
			}
			want := api.OK
			if differsByRule(y, numbers(0, 0)) {
				want = api.ErrDiffer
			}
			if _, _, e := y.differ(); e != want {
				t.Errorf("P15.1: %s of many levels: Differ returns the error %d", what, e)
			}
		})
	}
}

// TestDeepValues has results and inputs of 2^16 levels.
func TestDeepValues(t *testing.T) {
	v := number(1)
	for range levels {
		v = several(v)
	}
	f := func(n int) api.Prog { return prog(constant(n, listOf(whole))) }
	if pair(f(1), f(2)).witness([]api.Value{v}) {
		t.Error("P15.4: a value of many levels is a witness")
	}
	if e := pair(f(1), f(1)).check(split(0, returns(v))); e != api.ErrCheck {
		t.Errorf("P15.3: with a result of many levels Check returns the error %d", e)
	}
	proof := byForms
	for range levels {
		proof = split(0, proof)
	}
	if e := pair(f(1), f(1)).check(proof); e != api.ErrCheck {
		t.Errorf("P15.3: of a proof of many levels Check returns the error %d", e)
	}
}

// TestSlots has definitions of 2^16 slots.
func TestSlots(t *testing.T) {
	t.Parallel()
	f := func(ref int, kind int) api.Prog {
		d := api.Def{ID: id(30), Kind: kind, Body: size(list(whole, api.Expr{Kind: api.NVar, Ref: at(ref)}, num(0)))}
		for i := range levels {
			d.Slots = append(d.Slots, api.Slot{ID: at(i)})
		}
		d.Slots[9].Type = truth
		return prog(d)
	}
	x := pair(f(3, api.KFun), f(levels-1, api.KTest))
	_, proof, e := x.differ()
	if code := x.check(proof); e != api.OK || code != api.OK {
		t.Errorf("P15.2: of many slots Differ returns the error %d, and Check %d", e, code)
	}
	x.q.Defs[0].Body = num(3)
	if l, _, e := x.differ(); e != api.ErrDiffer || len(l) != levels || !x.witness(l) {
		t.Errorf("P15.1: of many slots Differ returns the error %d and an input of %d values", e, len(l))
	}
	x.q.Defs[0].Slots[levels-1].Type = truth
	if _, _, e := x.differ(); e != api.ErrType {
		t.Errorf("P15.1: of many slots, the last one of another type, Differ returns the error %d", e)
	}
}

// TestManyTypes has 2^16 records, each of which has two of the one before it, so that there are more ways to the first one than can be walked.
func TestManyTypes(t *testing.T) {
	t.Parallel()
	of := func(i int) api.Type { return api.Type{Kind: api.TDef, Def: at(i)} }
	records := func(first api.Type) api.Prog {
		p := prog(def(30, api.KFun, whole, num(1), of(levels-1)))
		for i := range levels {
			d := api.Def{ID: at(i), Kind: api.KRec, Slots: []api.Slot{{Type: first}}}
			if i > 0 {
				d.Slots = []api.Slot{{Type: of(i - 1)}, {Type: listOf(of(i - 1))}}
			}
			p.Defs = append(p.Defs, d)
		}
		return p
	}
	x := pair(records(whole), records(whole))
	x.fails(t, "many records", api.ErrLimit)
	x.q = records(truth)
	x.fails(t, "many records, the first one with another slot", api.ErrType)
	x.p, x.q = records(of(levels-1)), records(of(levels-1))
	x.fails(t, "a circle of many records", api.ErrLimit)
	x.p.Defs[0].Slots, x.q.Defs[0].Slots = nil, nil
	x.p.Defs[0].Body = size(list(of(levels-1), api.Expr{Kind: api.NRec, Ref: at(5)}))
	x.q.Defs[0].Body = x.p.Defs[0].Body
	x.equal(t, "a circle of many records in the body", true)
}

// TestManyCalls has 2^16 functions, each of which calls the one before it twice.
func TestManyCalls(t *testing.T) {
	t.Parallel()
	calls := func(first int) api.Prog {
		p := prog(within(def(30, api.KFun, whole, api.Expr{Kind: api.NCall, Ref: at(levels - 1), Kids: []api.Expr{v(3001)}}, whole), 1))
		for i := range levels {
			d := api.Def{ID: at(i), Kind: api.KFun, Slots: []api.Slot{{ID: at(levels + i)}}, Body: num(first)}
			before := api.Expr{Kind: api.NCall, Ref: at(i - 1), Kids: []api.Expr{name(levels+i, 0)}}
			if i > 0 {
				d.Body = op(api.Sub, before, before)
			}
			p.Defs = append(p.Defs, d)
		}
		return p
	}
	pair(calls(1), calls(1)).equal(t, "many calls", true)
	x := pair(calls(1), calls(2))
	x.equal(t, "many calls, the first one of another value", false) // since there is not enough fuel
	x.a, x.b = at(7), at(8)
	x.equal(t, "different numbers of calls", false)
	x.a, x.b = at(0), at(0)
	x.differs(t, "the first one of many calls", number(0))
}

// TestManyDefinitions has definitions with many inputs in programs of 2^16 definitions that do not matter.
func TestManyDefinitions(t *testing.T) {
	t.Parallel()
	many := func(body api.Expr) api.Prog {
		p := prog(within(def(30, api.KFun, whole, body, whole, whole), 31, 31), def(f, api.KFun, whole, add(v(3101), v(3102)), whole, whole))
		for i := range levels {
			p.Defs = append(p.Defs, api.Def{ID: at(i), Kind: api.KFun, Body: num(i)})
		}
		return p
	}
	a, b := v(3001), v(3002)
	x := pair(many(call(f, a, b)), many(call(f, b, a)))
	proof := x.equal(t, "3969 inputs", false)
	if len(proof.Kids) != 63 || !slices.ContainsFunc(proof.Kids[62].Kids, func(kid equiv.Proof) bool { return sameValues(kid.Result, numbers(31)) }) {
		t.Errorf("P15.2: of 3969 inputs the proof has %d kids", len(proof.Kids))
	}
	var forms []equiv.Proof
	for i := range 63 {
		forms = append(forms, split(1, slices.Repeat([]equiv.Proof{byForms}, 63)...))
		forms[i].Kids[i] = proof.Kids[i].Kids[i]
	}
	if e := x.check(split(0, forms...)); e != api.ErrCheck {
		t.Errorf("P15.3: of 3969 inputs Check of some normal forms returns the error %d", e)
	}
	y := pair(many(let(50, b, add(a, v(50)))), many(add(b, add(a, num(0)))))
	all := split(0, slices.Repeat([]equiv.Proof{split(1, slices.Repeat([]equiv.Proof{byForms}, 63)...)}, 63)...)
	if e := y.check(all); e != api.OK {
		t.Errorf("P15.3: Check of 3969 normal forms returns the error %d", e)
	}
	z := pair(many(call(f, a, b)), many(cond(op(api.Same, a, num(-31)), cond(op(api.Same, b, num(31)), num(7), call(f, a, b)), call(f, a, b))))
	z.differs(t, "the last but one of 3969 inputs", number(-31), number(31))
}
