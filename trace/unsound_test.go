package trace_test

import (
	"math"
	"testing"

	"splicery/api"
	"splicery/trace"
)

// TestUnsound has programs that are not sound, for which nothing is specified but that there is a result: with an error but ErrFuel and ErrLimit, all others are zero.
func TestUnsound(t *testing.T) {
	counts := map[api.Errno]int{}
	for seed := range 1000 {
		c := newChance(t, seed)
		q := clone(c.p)
		for range 4 {
			c.spoil(&q)
		}
		for i, d := range c.p.Defs {
			if !bodyByRule(d) {
				continue
			}
			args, fuel := c.args(d), pick(c, 5, 2000)
			on := d.ID
			if i < len(q.Defs) {
				on = pick(c, on, q.Defs[i].ID)
			}
			v, tr, code := trace.Call(q, on, args, fuel)
			counts[code]++
			empty := code != api.OK && code != api.ErrFuel && code != api.ErrLimit
			if code != api.OK && !equal(v, api.Value{}) || empty && !same(tr, trace.Trace{}) || len(tr.Nodes) > fuel {
				t.Fatalf("P1: in %+v the definition %v is %+v and asks %v (error %d)", q, d.ID, v, tr, code)
			}
		}
	}
	for _, code := range []api.Errno{api.OK, api.ErrNone, api.ErrArg, api.ErrFuel} {
		if counts[code] < 50 {
			t.Errorf("only %d end with %d", counts[code], code)
		}
	}
}

// spoil changes something in a program, after which nothing may be sound.
func (c *chance) spoil(p *api.Prog) {
	d := &p.Defs[c.Intn(len(p.Defs))]
	e := nodeAt(&d.Body, pick(c, paths(d.Body)...))
	switch c.Intn(12) {
	case 0:
		d.Kind = c.Intn(8) - 1
	case 1:
		d.Slots = d.Slots[:len(d.Slots)/2]
	case 2:
		d.Slots = append(d.Slots, api.Slot{ID: id(1 + c.Intn(c.last)), Type: pick(c, whole, c.typeOf(1), api.Type{Kind: 9}, api.Type{Kind: api.TList})})
	case 3:
		d.ID = pick(c, p.Defs...).ID
	case 4:
		for i := range d.Slots {
			d.Slots[i].Type = api.Type{Kind: api.TDef, Def: pick(c, d.ID, id(1+c.Intn(c.last)), pick(c, p.Defs...).ID)}
		}
	case 5:
		e.Kind = c.Intn(15) - 1
	case 6:
		e.N = pick(c, -1, 0, 1, 2, 3, 11, 12, math.MinInt, math.MaxInt)
	case 7:
		e.Ref = pick(c, id(1+c.Intn(c.last)), pick(c, p.Defs...).ID)
	case 8:
		e.Kids = append(e.Kids, num(1))
	case 9:
		e.Kids = e.Kids[:len(e.Kids)/2]
	case 10:
		e.Kids = append(e.Kids, e.Kids...)
	case 11:
		*e = c.expr(c.typeOf(1), nil, c.Intn(2))
	}
}

// TestCycles has definitions that call themselves: they end, however much fuel there is.
func TestCycles(t *testing.T) {
	for what, l := range map[string][]api.Def{
		"a definition that calls itself":           {def(1, api.KFun, whole, call(1, v(101)), whole)},
		"a definition that calls itself twice":     {def(1, api.KFun, whole, op(api.Add, call(1, v(101)), call(1, v(101))), whole)},
		"a definition that calls itself in a fold": {def(1, api.KFun, whole, fold(10, nums(1, 2), call(1, v(101)), num(1)), whole)},
		"two definitions that call each other":     {def(1, api.KFun, whole, call(2, v(101)), whole), def(2, api.KFun, whole, op(api.Add, num(1), call(1, v(201))), whole)},
		"a definition whose slot names itself":     {def(1, api.KFun, of(1), v(101), of(1))},
		"a definition that names nothing":          {def(1, api.KFun, of(2), v(101), of(2))},
		"a definition that calls nothing":          {def(1, api.KFun, whole, call(2, v(101)), whole)},
	} {
		for _, fuel := range []int{math.MinInt, 0, 1, 5, plenty, math.MaxInt} {
			if v, _, code := trace.Call(prog(l...), id(1), args(number(1)), fuel); code == api.OK || !equal(v, api.Value{}) {
				t.Errorf("P1: %s ends with %+v", what, v)
			}
		}
	}
	// A circle of types, of which the first is the one that is called: it has no values.
	p := prog(def(1, api.KCase, whole, api.Expr{}, of(1)), def(2, api.KFun, whole, num(1), of(1)))
	if _, tr, code := trace.Call(p, id(2), args(variant(0, number(1))), plenty); code != api.ErrArg || !same(tr, trace.Trace{}) {
		t.Errorf("P12.1: a value of a type in a circle: %v (error %d)", tr, code)
	}
}
