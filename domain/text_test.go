package domain_test

import (
	"slices"
	"testing"

	"splicery/api"
	"splicery/check"
	"splicery/domain"
	"splicery/eval"
	"splicery/scope"
	"splicery/syntax"
	"splicery/types"
	"splicery/value"
)

// text is a module with tests.
const text = `module m
rec Tank (level Int, open Bool)
case Event (Tick Int, Fill Int, Valve Bool)
case Shape (Dot Int, Box Tank, Row List(Tank))
fun top () Int = 10
fun fill (t Tank, by Int) Tank = let sum = Tank:level[t] + by in Tank{level = if sum < top() then sum else top(), open = Tank:open[t]}
fun all (l List(Int)) Int = fold n, sum = 0 over l do sum + n
fun weight (s Shape) Int = match Shape(s) {Dot n -> n, Box t -> Tank:level[t], Row l -> fold t, sum = len l over l do sum + Tank:level[t]}
fun after (t Tank, e Event) Tank = match Event(e) {Tick n -> fill(t, n), Fill n -> fill(t, n + n), Valve b -> Tank{level = Tank:level[t], open = b}}
test alone () Int = top() + 1
test full (a Int 20, b Bool 1) Bool = Tank:level[fill(Tank{level = a, open = b}, 3)] == top() or not b and a / 2 < 3
test weighs (s Shape 1) Int = weight(s)
test many (l List(Int) 2, s Shape 0) Int = all(l) + weight(s)
test twice (t Tank 2, e Event 3) Tank = after(after(t, e), e)
`

// program returns the definitions of the text, with IDs from 1000 on.
func program(t *testing.T) api.Prog {
	t.Helper()
	s, at := syntax.Parse(text)
	if at != -1 {
		t.Fatalf("the text is not read: %d", at)
	}
	p := api.Prog{Mods: []api.Mod{{ID: id(1), Name: s.Name}}}
	for i, f := range s.Defs { // first what the names stand for
		d := api.Def{ID: id(1000 + 100*i), Kind: f.Kind, Mod: id(1), Name: f.Name}
		for _, x := range f.Slots {
			d.Slots = append(d.Slots, api.Slot{Name: x.Name})
		}
		p.Defs = append(p.Defs, d)
	}
	var defs []api.Def
	for i, f := range s.Defs {
		var next []api.ID
		for n := range 100 {
			next = append(next, id(1000+100*i+n))
		}
		d, _, code := scope.Bind(p, id(1), f, next)
		if code != api.OK {
			t.Fatalf("%s is not bound: %d", f.Name, code)
		}
		defs = append(defs, d)
	}
	p.Defs = defs
	if l := check.All(p); len(l) > 0 {
		t.Fatalf("the program is not sound: %+v", l)
	}
	return p
}

// TestText checks that tests of a program that is written with names have so many inputs, and that calls with them have their result type and a result of it.
func TestText(t *testing.T) {
	p := program(t)
	for name, want := range map[string]int{"alone": 1, "full": 41 * 2, "weighs": 3 + 6 + 7, "many": 31 * 4, "twice": 10 * 16} {
		test := p.Defs[slices.IndexFunc(p.Defs, func(d api.Def) bool { return d.Name == name })]
		twin := test // a function, which nodes may call, with the same body
		twin.ID, twin.Kind = id(5), api.KFun
		q := api.Prog{Defs: append(slices.Clone(p.Defs), twin)}
		for i, in := range hasInputs(t, name, p, test.Slots, want) {
			call := api.Expr{ID: id(6), Kind: api.NCall, Ref: twin.ID}
			for k, v := range in {
				if !value.Valid(p, test.Slots[k].Type, v) {
					t.Errorf("P13.8: the value %d of the input %d of %s is %s", k, i, name, show(v))
				}
				call.Kids = append(call.Kids, literal(p, test.Slots[k].Type, v))
			}
			result, at, code := types.Infer(q, nil, call)
			if code != api.OK || !value.SameType(result, test.Result) {
				t.Errorf("P13.8: with the input %s, a call of %s has the type %+v (error %d at %v)", showAll(in), name, result, code, at)
			}
			v, _, code := eval.Call(p, test.ID, in, api.MaxFuel)
			if code != api.OK || !value.Valid(p, test.Result, v) {
				t.Errorf("P13.8: with the input %s, %s is %+v (error %d)", showAll(in), name, v, code)
			}
			if again, _, code := eval.Expr(q, call, api.MaxFuel); code != api.OK || !same(v, again) {
				t.Errorf("P13.8: with the literals for %s, %s is %+v (error %d), not %+v", showAll(in), name, again, code, v)
			}
		}
	}
}

// TestFirst checks which inputs of a test of the text are the first ones.
func TestFirst(t *testing.T) {
	p := program(t)
	test := p.Defs[slices.IndexFunc(p.Defs, func(d api.Def) bool { return d.Name == "twice" })]
	l, _ := domain.Inputs(p, test.Slots)
	want := "(0 f) 0:0, (-1 f) 0:0, (0 f) 0:-1, (0 f) 0:1, (0 f) 1:0, (0 t) 0:0, (1 f) 0:0, (-2 f) 0:0"
	if len(l) < 8 || showInputs(l[:8]) != want {
		t.Errorf("P13.3: the first inputs are %s, not %s", showInputs(l[:min(8, len(l))]), want)
	}
}
