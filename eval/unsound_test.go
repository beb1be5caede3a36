package eval_test

import (
	"math"
	"reflect"
	"slices"
	"testing"

	"splicery/api"
	"splicery/eval"
)

// paths returns the paths of kids to all nodes of an expression.
func paths(e api.Expr) [][]int {
	l := [][]int{nil}
	for i, kid := range e.Kids {
		for _, path := range paths(kid) {
			l = append(l, append([]int{i}, path...))
		}
	}
	return l
}

// changed returns a copy of an expression in which a function has changed the node at the end of a path.
func changed(e api.Expr, path []int, change func(e *api.Expr)) api.Expr {
	e.Kids = slices.Clone(e.Kids)
	if len(path) == 0 {
		change(&e)
		return e
	}
	e.Kids[path[0]] = changed(e.Kids[path[0]], path[1:], change)
	return e
}

// spoil changes something in a node, after which nothing may be sound.
func (c *chance) spoil(e *api.Expr) {
	switch c.Intn(7) {
	case 0:
		e.Kind = c.Intn(15) - 1
	case 1:
		e.N = pick(c, -1, 0, 1, 2, 3, 11, 12, math.MinInt, math.MaxInt)
	case 2:
		e.Ref = pick(c, id(1+c.Intn(c.last)), pick(c, c.p.Defs...).ID)
	case 3:
		e.Kids = append(e.Kids, c.expr(c.typeOf(1), nil, 1))
	case 4:
		e.Kids = e.Kids[:len(e.Kids)/2]
	case 5:
		slices.Reverse(e.Kids)
	case 6:
		*e = c.expr(c.typeOf(1), nil, c.Intn(2))
	}
}

// TestUnsound has programs that are not sound, for which nothing is specified but that there is a result: with an error, all others are zero.
func TestUnsound(t *testing.T) {
	counts := map[api.Errno]int{}
	for seed := range 3000 {
		c := newChance(t, seed)
		for range 4 {
			d := &c.p.Defs[c.Intn(len(c.p.Defs))]
			switch n := c.Intn(12); {
			case n == 0:
				d.Kind = c.Intn(8) - 1
			case n == 1:
				d.Slots = d.Slots[:len(d.Slots)/2]
			case n == 2:
				d.Slots = append(slices.Clone(d.Slots), api.Slot{ID: id(1 + c.Intn(c.last)), Type: pick(c, whole, c.typeOf(1), api.Type{Kind: 9}, api.Type{Kind: api.TList})})
			case n == 3:
				d.ID = pick(c, c.p.Defs...).ID
			default:
				d.Body = changed(d.Body, pick(c, paths(d.Body)...), c.spoil)
			}
		}
		for _, d := range c.p.Defs {
			var args []api.Value
			for _, s := range d.Slots {
				args = append(args, c.any(s.Type))
			}
			call := func(fuel int) (api.Value, int, api.Errno) { return eval.Call(c.p, d.ID, args, fuel) }
			for _, run := range []runner{call, expr(c.p, d.Body)} {
				fuel := pick(c, 5, 2000)
				v, steps, code := run(fuel)
				counts[code]++
				if code != api.OK && (steps != 0 || !reflect.DeepEqual(v, api.Value{})) || steps < 0 || steps > fuel {
					t.Fatalf("P1: in %+v the definition %v or its body is %+v after %d steps (error %d)", c.p, d.ID, v, steps, code)
				}
			}
			if n := eval.Most(c.p, d.ID); n < -1 || n > api.MaxInt {
				t.Fatalf("P1: in %+v the definition %v has the bound %d", c.p, d.ID, n)
			}
		}
	}
	for _, code := range []api.Errno{api.OK, api.ErrNone, api.ErrArg, api.ErrFuel} {
		if counts[code] < 50 {
			t.Errorf("only %d end with %d", counts[code], code)
		}
	}
}

// any returns a value of a type; if it is none, some value.
func (c *chance) any(t api.Type) api.Value {
	if t.Kind > api.TDef || t.Kind == api.TList && len(t.Kids) == 0 || !c.knows(t) {
		return number(3)
	}
	return c.value(t, 8)
}

// knows reports whether a type is made of definitions that were types.
func (c *chance) knows(t api.Type) bool {
	if t.Kind == api.TList {
		return c.knows(t.Kids[0])
	}
	return t.Kind != api.TDef || slices.ContainsFunc(c.data, func(d api.Def) bool { return d.ID == t.Def })
}

// TestCycles has definitions that call themselves: they end, however much fuel there is, and have no bound.
func TestCycles(t *testing.T) {
	arg := number(1)
	for what, l := range map[string][]api.Def{
		"a definition that calls itself":           {def(1, api.KFun, whole, call(1, v(101)), whole)},
		"a definition that calls itself twice":     {def(1, api.KFun, whole, op(api.Add, call(1, v(101)), call(1, v(101))), whole)},
		"a definition that calls itself in a kid":  {def(1, api.KFun, whole, call(2, call(1, v(101))), whole), def(2, api.KFun, whole, v(201), whole)},
		"a definition that calls itself in a fold": {def(1, api.KFun, whole, fold(10, nums(1, 2), call(1, v(101)), num(1)), whole)},
		"two definitions that call each other":     {def(1, api.KFun, whole, call(2, v(101)), whole), def(2, api.KFun, whole, op(api.Add, num(1), call(1, v(201))), whole)},
		"a definition that calls such a one":       {def(1, api.KFun, whole, call(2, v(101)), whole), def(2, api.KFun, whole, call(2, v(201)), whole)},
		"a deep definition that calls itself":      {def(1, api.KFun, whole, deep(call(1, v(101)), func(i int, e api.Expr) api.Expr { return op(api.Add, num(1), e) }), whole)},
	} {
		p := prog(l...)
		for _, fuel := range []int{0, 1, 5, plenty, math.MaxInt} {
			if _, steps, code := eval.Call(p, id(1), []api.Value{arg}, fuel); code == api.OK || steps != 0 {
				t.Errorf("P1: %s ends after %d steps", what, steps)
			}
			eval.Expr(p, call(1, num(1)), fuel)
		}
		if n := eval.Most(p, id(1)); n != -1 {
			t.Errorf("P1: %s has the bound %d", what, n)
		}
	}
	// The type of a slot names itself: its values are those that are small enough.
	p := prog(def(1, api.KCase, whole, api.Expr{}, whole, of(1)), def(2, api.KFun, of(1), one(1, 1, v(201)), of(1)))
	gives(t, "a case of a type that names itself", calls(p, 2, variant(1, variant(0, arg))), variant(1, variant(1, variant(0, arg))), 2)
}
