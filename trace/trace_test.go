package trace_test

import (
	"cmp"
	"math"
	"reflect"
	"slices"
	"strconv"
	"testing"

	"splicery/api"
	"splicery/check"
	"splicery/eval"
	"splicery/trace"
)

// The functions of the package, and its type, are these.
var (
	_ func(api.Prog, api.ID, []api.Value, int) (api.Value, trace.Trace, api.Errno) = trace.Call
	_ func(a, b trace.Trace) trace.Trace                                           = trace.Join
	_ func(trace.Trace, []api.ID) bool                                             = trace.Asks
	_ func(p, q api.Prog) []api.ID                                                 = trace.Changed
	_                                                                              = struct{ Defs, Nodes []api.ID }(trace.Trace{})
)

const plenty = 1 << 40 // fuel

// id returns an ID for each number from 0 on. Their order is not that of the numbers.
func id(n int) api.ID { return api.ID{Shop: n % 3, Seq: n / 3 % 4, Index: n / 12} }

func ids(l ...int) []api.ID {
	var some []api.ID
	for _, n := range l {
		some = append(some, id(n))
	}
	return some
}

// before reports whether an ID stands in front of another one.
func before(a, b api.ID) bool {
	switch {
	case a.Shop != b.Shop:
		return a.Shop < b.Shop
	case a.Seq != b.Seq:
		return a.Seq < b.Seq
	}
	return a.Index < b.Index
}

// sorted returns the elements of a list in increasing order, each once.
func sorted(l []api.ID) []api.ID {
	l = slices.Clone(l)
	slices.SortFunc(l, func(a, b api.ID) int {
		switch {
		case before(a, b):
			return -1
		case before(b, a):
			return 1
		}
		return 0
	})
	return slices.Compact(l)
}

var (
	whole = api.Type{}
	truth = api.Type{Kind: api.TBool}
)

func of(n int) api.Type { return api.Type{Kind: api.TDef, Def: id(n)} }

func listOf(t api.Type) api.Type { return api.Type{Kind: api.TList, Kids: []api.Type{t}} }

// Values.

func number(n int) api.Value { return api.Value{Kind: api.VInt, N: n} }

func boolean(is bool) api.Value {
	if is {
		return api.Value{Kind: api.VBool, N: 1}
	}
	return api.Value{Kind: api.VBool}
}

func record(l ...api.Value) api.Value { return api.Value{Kind: api.VRec, Kids: l} }

func variant(n int, v api.Value) api.Value {
	return api.Value{Kind: api.VCase, N: n, Kids: []api.Value{v}}
}

func values(l ...api.Value) api.Value { return api.Value{Kind: api.VList, Kids: l} }

func numbers(l ...int) api.Value {
	v := values()
	for _, n := range l {
		v.Kids = append(v.Kids, number(n))
	}
	return v
}

func args(l ...api.Value) []api.Value { return l }

// Nodes. Those that bind nothing get their IDs from def.

func num(n int) api.Expr { return api.Expr{Kind: api.NInt, N: n} }

func is(n int) api.Expr { return api.Expr{Kind: api.NBool, N: n} }

// v returns a variable of a slot, or of the only name of a node.
func v(ref int) api.Expr { return nth(ref, 0) }

// nth returns a variable of a name of a node.
func nth(ref, n int) api.Expr { return api.Expr{Kind: api.NVar, Ref: id(ref), N: n} }

func call(ref int, kids ...api.Expr) api.Expr {
	return api.Expr{Kind: api.NCall, Ref: id(ref), Kids: kids}
}

func op(n int, kids ...api.Expr) api.Expr { return api.Expr{Kind: api.NOp, N: n, Kids: kids} }

func cond(kids ...api.Expr) api.Expr { return api.Expr{Kind: api.NIf, Kids: kids} }

func let(n int, kids ...api.Expr) api.Expr { return api.Expr{ID: id(n), Kind: api.NLet, Kids: kids} }

func rec(ref int, kids ...api.Expr) api.Expr {
	return api.Expr{Kind: api.NRec, Ref: id(ref), Kids: kids}
}

func field(ref, n int, kid api.Expr) api.Expr {
	return api.Expr{Kind: api.NField, Ref: id(ref), N: n, Kids: []api.Expr{kid}}
}

// one returns a node for the case n of a variant.
func one(ref, n int, kid api.Expr) api.Expr {
	return api.Expr{Kind: api.NCase, Ref: id(ref), N: n, Kids: []api.Expr{kid}}
}

func match(n, ref int, kids ...api.Expr) api.Expr {
	return api.Expr{ID: id(n), Kind: api.NMatch, Ref: id(ref), Kids: kids}
}

func list(t api.Type, kids ...api.Expr) api.Expr {
	return api.Expr{Kind: api.NList, Type: t, Kids: kids}
}

// nums returns a list of numbers.
func nums(l ...int) api.Expr {
	e := list(whole)
	for _, n := range l {
		e.Kids = append(e.Kids, num(n))
	}
	return e
}

func fold(n int, kids ...api.Expr) api.Expr {
	return api.Expr{ID: id(n), Kind: api.NFold, Kids: kids}
}

// skipped returns a node that is not evaluated, nor what is below it. Its name says so, which does not matter (P12.7).
func skipped(e api.Expr) api.Expr {
	e.Names = []string{"skipped"}
	return e
}

// def returns the definition n, whose slots have the IDs 100 * n + 1, and so on, and whose nodes without an ID have, in preorder, the IDs 1000 * n, and so on.
func def(n, kind int, result api.Type, body api.Expr, l ...api.Type) api.Def {
	d := api.Def{ID: id(n), Kind: kind, Mod: id(90), Name: "d" + strconv.Itoa(n), Result: result, Place: n}
	d.Body, _ = withIDs(body, 1000*n)
	for i, t := range l {
		d.Slots = append(d.Slots, api.Slot{ID: id(100*n + 1 + i), Name: string(rune('a' + i)), Type: t, Place: i})
	}
	return d
}

// withIDs returns a copy of an expression in which all nodes have an ID, where the first one in preorder has a number if it had none, and the number behind the last one.
func withIDs(e api.Expr, n int) (api.Expr, int) {
	if e.ID == (api.ID{}) {
		e.ID = id(n)
	}
	n++
	e.Kids = slices.Clone(e.Kids)
	for i := range e.Kids {
		e.Kids[i], n = withIDs(e.Kids[i], n)
	}
	return e, n
}

func prog(l ...api.Def) api.Prog { return api.Prog{Defs: l} }

// sound checks that a program has types.
func sound(t *testing.T, p api.Prog) {
	t.Helper()
	if l := check.All(p); len(l) > 0 {
		t.Fatalf("the program is not sound: %+v", l)
	}
}

// evaluated returns the IDs of the nodes of an expression that are not said to be skipped.
func evaluated(e api.Expr) []api.ID {
	if len(e.Names) > 0 && e.Names[0] == "skipped" {
		return nil
	}
	l := []api.ID{e.ID}
	for _, kid := range e.Kids {
		l = append(l, evaluated(kid)...)
	}
	return l
}

// bodies returns the trace with these definitions and with what is evaluated of the bodies of those that have one.
func bodies(p api.Prog, defs ...int) trace.Trace {
	t := trace.Trace{Defs: sorted(ids(defs...))}
	for _, d := range p.Defs {
		if slices.Contains(t.Defs, d.ID) && d.Kind >= api.KFun {
			t.Nodes = append(t.Nodes, evaluated(d.Body)...)
		}
	}
	t.Nodes = sorted(t.Nodes)
	return t
}

// same reports whether two traces are equal, where nil and empty lists are the same.
func same(a, b trace.Trace) bool {
	return slices.Equal(a.Defs, b.Defs) && slices.Equal(a.Nodes, b.Nodes)
}

// equal reports whether two values are equal, where nil and empty lists are the same.
func equal(a, b api.Value) bool {
	return a.Kind == b.Kind && a.N == b.N && slices.EqualFunc(a.Kids, b.Kids, equal)
}

// traced checks that a call has a trace, and the value and the error of eval.Call, which is returned.
func traced(t *testing.T, what string, p api.Prog, n int, args []api.Value, fuel int, want trace.Trace) api.Errno {
	t.Helper()
	v, got, code := trace.Call(p, id(n), args, fuel)
	wantValue, _, wantCode := eval.Call(p, id(n), args, fuel)
	if !equal(v, wantValue) || code != wantCode {
		t.Fatalf("P12.1: %s is %+v (error %d) with the fuel %d, not %+v (error %d)", what, v, code, fuel, wantValue, wantCode)
	}
	if !same(got, want) {
		t.Fatalf("P12.1: %s asks %v (error %d) with the fuel %d, not %v", what, got, code, fuel, want)
	}
	return code
}

// wholly checks the trace of a call with just enough fuel and with more, and that it is contained in that with less (P12.6).
func wholly(t *testing.T, what string, p api.Prog, n int, args []api.Value, want trace.Trace) {
	t.Helper()
	_, steps, code := eval.Call(p, id(n), args, plenty)
	if code != api.OK {
		t.Fatalf("%s fails with %d", what, code)
	}
	for _, fuel := range []int{steps, steps + 1, plenty, math.MaxInt} {
		traced(t, what, p, n, args, fuel, want)
	}
	if len(want.Nodes) > steps {
		t.Fatalf("P12.6: %s has %d steps, but asks %d nodes", what, steps, len(want.Nodes))
	}
	more := want
	for fuel := steps - 1; fuel >= -1; fuel-- {
		_, less, code := trace.Call(p, id(n), args, fuel)
		if code != api.ErrFuel || !contains(more, less) {
			t.Fatalf("P12.6: %s asks %v with the fuel %d (error %d), but %v with more", what, less, fuel, code, more)
		}
		more = less
	}
	if len(more.Nodes) > 0 || !slices.Contains(more.Defs, id(n)) {
		t.Fatalf("P12.1: %s asks %v without fuel", what, more)
	}
}

// contains reports whether a trace has all that another one has.
func contains(a, b trace.Trace) bool {
	has := func(l []api.ID) func(api.ID) bool {
		return func(x api.ID) bool { return !slices.Contains(l, x) }
	}
	return !slices.ContainsFunc(b.Defs, has(a.Defs)) && !slices.ContainsFunc(b.Nodes, has(a.Nodes))
}

// example returns the functions f (1) and g (2) of the chapter, with the body of g.
func example(g api.Expr) api.Prog {
	return prog(
		def(1, api.KFun, whole, cond(op(api.Less, v(101), num(3)), v(101), call(2, v(101))), whole),
		def(2, api.KFun, whole, g, whole),
	)
}

// TestExample has the example of the chapter. The nodes of f are 1000 (the whole), 1001 (a < 3), 1002 and 1003 (its kids), 1004 (the first a), 1005 (the call) and 1006 (its kid).
func TestExample(t *testing.T) {
	p := example(op(api.Mul, v(201), num(2)))
	sound(t, p)
	small := trace.Trace{Defs: ids(1), Nodes: sorted(ids(1000, 1001, 1002, 1003, 1004))}
	large := trace.Trace{Defs: sorted(ids(1, 2)), Nodes: sorted(ids(1000, 1001, 1002, 1003, 1005, 1006, 2000, 2001, 2002))}
	wholly(t, "f of 2", p, 1, args(number(2)), small)
	wholly(t, "f of 5", p, 1, args(number(5)), large)
	q := example(op(api.Mul, v(201), num(3)))
	changed := trace.Changed(p, q)
	if !slices.Equal(changed, ids(2002)) {
		t.Errorf("P12.4: of the body of g %v has changed", changed)
	}
	if trace.Asks(small, changed) || !trace.Asks(large, changed) {
		t.Errorf("P12.3: f of 2 asks what has changed, or f of 5 does not")
	}
	if both := trace.Join(large, small); !same(both, trace.Trace{Defs: large.Defs, Nodes: sorted(append(ids(1004), large.Nodes...))}) {
		t.Errorf("P12.2: both calls ask %v", both)
	}
	v, _, code := trace.Call(q, id(1), args(number(5)), plenty)
	if !equal(v, number(15)) || code != api.OK {
		t.Errorf("P12.1: f of 5 is %+v (error %d)", v, code)
	}
}

// TestFuel has the example step by step.
func TestFuel(t *testing.T) {
	p := example(op(api.Mul, v(201), num(2)))
	steps := ids(1000, 1001, 1002, 1003, 1005, 1006, 2000, 2001, 2002)
	for _, fuel := range []int{math.MinInt, -5, -1, 0, 1, 2, 3, 4, 5, 6, 7, 8, 9, 10, plenty} {
		some := steps[:min(max(fuel, 0), 9)]
		want := trace.Trace{Defs: ids(1), Nodes: sorted(some)}
		if len(some) >= 6 { // then the kid of the call has a value, also if there is no fuel for the body of g
			want.Defs = sorted(ids(1, 2))
		}
		code := traced(t, "f of 5", p, 1, args(number(5)), fuel, want)
		if (code == api.OK) != (fuel >= 9) || code != api.OK && code != api.ErrFuel {
			t.Errorf("P12.1: f of 5 fails with %d with the fuel %d", code, fuel)
		}
	}
}

// TestNodes has each kind of node, evaluated and not evaluated.
func TestNodes(t *testing.T) {
	sum := op(api.Add, num(1), num(2))
	for _, x := range []struct {
		what   string
		result api.Type
		e      api.Expr
		calls  []int // of the functions 5 and 6
	}{
		{"a number", whole, num(5), nil},
		{"true", truth, is(1), nil},
		{"a variable of a slot", whole, v(401), nil},
		{"a variable of a let", whole, let(10, num(3), v(10)), nil},
		{"a call without kids", whole, call(5), []int{5}},
		{"a call with kids", whole, call(6, sum, num(4)), []int{6}},
		{"a call in a call", whole, call(6, call(5), num(9)), []int{5, 6}},
		{"a call twice", whole, op(api.Add, call(5), call(5)), []int{5}},
		{"a call that is not evaluated", whole, cond(is(0), skipped(call(6, call(5), num(3))), call(5)), []int{5}},
		{"no call", whole, cond(is(1), num(1), skipped(call(5))), nil},
		{"an operation", whole, op(api.Mul, sum, v(401)), nil},
		{"an operation with one kid", truth, op(api.Not, is(0)), nil},
		{"and, whose kids are both evaluated", truth, op(api.And, is(0), op(api.Not, is(1))), nil},
		{"or, whose kids are both evaluated", truth, op(api.Or, is(1), op(api.Not, is(1))), nil},
		{"a condition that is true", whole, cond(op(api.Not, is(0)), sum, skipped(sum)), nil},
		{"a condition that is false", whole, cond(op(api.Not, is(1)), skipped(sum), sum), nil},
		{"a condition in a condition", whole, cond(cond(is(0), skipped(is(0)), is(1)), cond(is(0), skipped(num(1)), num(2)), skipped(cond(is(0), num(1), num(2)))), nil},
		{"a let", whole, let(10, sum, op(api.Mul, v(10), v(10))), nil},
		{"a let without its variable", whole, let(10, sum, num(1)), nil},
		{"a let that is not evaluated", whole, cond(is(1), num(1), skipped(let(10, num(1), v(10)))), nil},
		{"a record", of(1), rec(1, sum, is(1)), nil},
		{"a field", whole, field(1, 0, rec(1, sum, is(1))), nil},
		{"a field that is not evaluated", whole, cond(is(0), skipped(field(1, 0, rec(1, sum, is(1)))), num(1)), nil},
		{"a case", of(2), one(2, 2, op(api.Not, is(0))), nil},
		{"a match of the first case", whole, match(10, 2, one(2, 0, sum), op(api.Add, nth(10, 0), num(1)), skipped(sum), skipped(call(5))), nil},
		{"a match of the second case", whole, match(10, 2, one(2, 1, sum), skipped(sum), nth(10, 1), skipped(sum)), nil},
		{"a match of the last case", whole, match(10, 2, one(2, 2, is(1)), skipped(call(5)), skipped(sum), cond(nth(10, 2), call(5), skipped(sum))), []int{5}},
		{"a match that is not evaluated", whole, cond(is(1), num(1), skipped(match(10, 2, one(2, 2, is(1)), num(1), num(1), num(1)))), nil},
		{"a list without elements", listOf(truth), list(truth), nil},
		{"a list", listOf(whole), list(whole, sum, num(1), sum), nil},
		{"a list that is not evaluated", listOf(whole), cond(is(0), skipped(nums(1, 2)), nums(1)), nil},
		{"a fold over an empty list", whole, fold(10, nums(), sum, skipped(op(api.Add, nth(10, 0), nth(10, 1)))), nil},
		{"a fold over one element", whole, fold(10, nums(4), sum, op(api.Sub, nth(10, 0), nth(10, 1))), nil},
		{"a fold over several elements", whole, fold(10, nums(1, 2, 3), num(100), op(api.Sub, nth(10, 0), nth(10, 1))), nil},
		{"a fold with other branches", whole, fold(10, nums(1, 2, 3), num(100), cond(op(api.Less, nth(10, 0), num(2)), nth(10, 1), op(api.Sub, nth(10, 1), num(1)))), nil},
		{"a fold with the same branch", whole, fold(10, nums(3, 2, 3), num(100), cond(op(api.Less, nth(10, 0), num(2)), skipped(nth(10, 1)), nth(10, 0))), nil},
		{"a fold that calls", whole, fold(10, nums(1, 2), num(1), call(6, nth(10, 1), call(5))), []int{5, 6}},
		{"a fold over no element that does not call", whole, fold(10, nums(), call(5), skipped(call(6, nth(10, 1), call(5)))), []int{5}},
		{"a fold in a fold", whole, fold(10, nums(1, 2), num(0), fold(11, nums(3), nth(10, 1), op(api.Add, nth(11, 1), nth(10, 0)))), nil},
		{"a fold over no element in a fold", whole, fold(10, nums(1, 2), num(0), fold(11, nums(), nth(10, 1), skipped(op(api.Add, nth(11, 1), nth(10, 0))))), nil},
		{"a fold that is not evaluated", whole, cond(is(1), num(1), skipped(fold(10, nums(1), num(1), nth(10, 0)))), nil},
	} {
		p := prog(
			def(1, api.KRec, whole, num(1), whole, truth),
			def(2, api.KCase, whole, num(1), whole, whole, truth),
			def(4, api.KFun, x.result, x.e, whole),
			def(5, api.KFun, whole, num(5)),
			def(6, api.KFun, whole, cond(op(api.Less, v(601), v(602)), op(api.Sub, v(602), v(601)), num(6)), whole, whole),
			def(7, api.KFun, x.result, let(20, num(4), call(4, v(20)))),
		)
		if slices.Contains(x.calls, 6) { // all calls are those for a first number that is less
			p.Defs[4].Body.Kids[2] = skipped(p.Defs[4].Body.Kids[2])
		}
		sound(t, p)
		wholly(t, x.what, p, 4, args(number(4)), bodies(p, append(x.calls, 4)...))
		wholly(t, "a call of "+x.what, p, 7, nil, bodies(p, append(x.calls, 4, 7)...))
	}
}

// TestKinds calls definitions of each kind, also by nodes.
func TestKinds(t *testing.T) {
	state, event := record(number(5), boolean(true)), variant(0, number(1))
	stateNode := rec(1, num(5), is(1))
	p := prog(
		def(1, api.KRec, whole, api.Expr{}, whole, truth),
		def(2, api.KCase, whole, api.Expr{}, whole, of(1)),
		def(3, api.KRec, whole, api.Expr{}, of(1), listOf(whole), whole),
		def(4, api.KFun, whole, op(api.Add, v(401), num(1)), whole, of(1)),
		def(5, api.KOn, of(3), rec(3, v(501), nums(7, 8), num(3)), of(1), of(2)),
		def(6, api.KTest, truth, op(api.Less, call(4, v(601), rec(1, v(601), v(602))), num(3)), whole, truth),
		def(7, api.KConv, listOf(of(1)), list(of(1), v(701), v(701)), of(1)),
		def(8, api.KFun, whole, op(api.Len, call(7, stateNode))),
		def(9, api.KFun, whole, field(3, 2, call(5, stateNode, one(2, 1, stateNode)))), // P11.9 lets a node call any definition with a body
		def(10, api.KFun, truth, call(6, num(1), is(1))),
	)
	sound(t, prog(p.Defs[:8]...))
	wholly(t, "a function", p, 4, args(number(1), state), bodies(p, 4, 1))
	wholly(t, "a handler", p, 5, args(state, event), bodies(p, 5, 1, 2))
	wholly(t, "a test", p, 6, args(number(1), boolean(true)), bodies(p, 6, 4))
	wholly(t, "a converter", p, 7, args(state), bodies(p, 7, 1))
	wholly(t, "a call of a converter", p, 8, nil, bodies(p, 8, 7))
	wholly(t, "a call of a handler", p, 9, nil, bodies(p, 9, 5))
	wholly(t, "a call of a test", p, 10, nil, bodies(p, 10, 6, 4))
}

// TestReached has definitions that the types of slots reach: through kids of types, through slots of other types, in circles; but not those that other types and nodes name.
func TestReached(t *testing.T) {
	zero := number(0)
	for _, x := range []struct {
		what  string
		slots []api.Type
		args  []api.Value
		want  []int
	}{
		{"numbers", []api.Type{whole, truth, listOf(truth)}, args(zero, boolean(false), values()), nil},
		{"a record", []api.Type{of(1)}, args(record(zero)), []int{1}},
		{"a record as the last slot", []api.Type{whole, of(1)}, args(zero, record(zero)), []int{1}},
		{"two records", []api.Type{of(2), of(1)}, args(record(zero), record(zero)), []int{1, 2}},
		{"a record twice", []api.Type{of(1), of(1)}, args(record(zero), record(zero)), []int{1}},
		{"a list of records", []api.Type{listOf(of(1))}, args(values()), []int{1}},
		{"a list of lists of records", []api.Type{listOf(listOf(of(1)))}, args(values()), []int{1}},
		{"a record of a record", []api.Type{of(3)}, args(record(record(zero), zero)), []int{3, 1}},
		{"a record of a list", []api.Type{of(4)}, args(record(values())), []int{4, 2}},
		{"a variant, of which each case counts", []api.Type{of(5)}, args(variant(0, zero)), []int{5, 2, 3, 1}},
		{"a list of variants", []api.Type{listOf(of(5))}, args(values()), []int{5, 2, 3, 1}},
		{"a circle of one", []api.Type{of(6)}, args(record(values())), []int{6}},
		{"a circle of two", []api.Type{of(7)}, args(variant(0, zero)), []int{7, 8, 1}},
		{"the same circle from the other side", []api.Type{of(8)}, args(variant(0, record(zero))), []int{7, 8, 1}},
		{"a list of both", []api.Type{listOf(of(8)), of(7)}, args(values(), variant(0, zero)), []int{7, 8, 1}},
		{"all", []api.Type{of(8), of(6), listOf(of(5)), of(4)}, args(variant(0, record(zero)), record(values()), values(), record(values())), []int{1, 2, 3, 4, 5, 6, 7, 8}},
	} {
		p := prog(
			def(8, api.KCase, whole, api.Expr{}, of(1), of(7)),
			def(7, api.KCase, whole, api.Expr{}, whole, of(8)),
			def(6, api.KRec, whole, api.Expr{}, listOf(of(6))),
			def(5, api.KCase, whole, api.Expr{}, whole, of(2), of(3)),
			def(4, api.KRec, whole, api.Expr{}, listOf(of(2))),
			def(3, api.KRec, whole, api.Expr{}, of(1), whole),
			def(2, api.KRec, whole, api.Expr{}, whole),
			def(1, api.KRec, whole, api.Expr{}, whole),
			def(20, api.KFun, of(9), rec(9, call(21, list(of(10)), rec(11, num(1)))), x.slots...),
			def(9, api.KRec, whole, api.Expr{}, listOf(of(12))), // the result of what is called, and of a slot of it
			def(10, api.KRec, whole, api.Expr{}, whole),         // slots of what is called by a node
			def(11, api.KRec, whole, api.Expr{}, whole),
			def(12, api.KRec, whole, api.Expr{}, whole),
			def(21, api.KFun, listOf(of(12)), list(of(12)), listOf(of(10)), of(11)),
		)
		sound(t, p)
		wholly(t, x.what, p, 20, x.args, bodies(p, append(x.want, 20, 21)...))
		for fuel := range 6 { // with 5, all kids of the call of 21 have values
			want := bodies(p, append(x.want, 20)...)
			want.Nodes = sorted(evaluated(p.Defs[8].Body)[:fuel])
			if fuel == 5 {
				want.Defs = sorted(append(want.Defs, id(21)))
			}
			if code := traced(t, x.what, p, 20, x.args, fuel, want); code != api.ErrFuel {
				t.Errorf("%s fails with %d", x.what, code)
			}
		}
	}
	// The Result of a record or a variant does not count, nor does a type without a slot.
	p := prog(def(1, api.KRec, of(2), api.Expr{}, whole), def(2, api.KRec, whole, api.Expr{}, whole), def(3, api.KFun, of(2), rec(2, num(1)), of(1)), def(4, api.KFun, of(2), rec(2, num(1))))
	wholly(t, "a record with a result", p, 3, args(record(zero)), bodies(p, 3, 1))
	wholly(t, "a function without slots", p, 4, nil, bodies(p, 4))
	// A record with the zero ID, which stands in all other types, too.
	p = prog(def(0, api.KRec, whole, api.Expr{}, whole), def(3, api.KFun, whole, v(301), whole, listOf(truth)), def(4, api.KFun, whole, num(1), listOf(of(0))))
	wholly(t, "a function without the record with the zero ID", p, 3, args(zero, values()), bodies(p, 3))
	wholly(t, "a function with the record with the zero ID", p, 4, args(values()), bodies(p, 4, 0))
}

// zeros returns a list of n zeros, which has n + 1 nodes and as many steps.
func zeros(n int) api.Expr { return list(whole, make([]api.Expr, n)...) }

// nested returns a list of the depth n.
func nested(n int) api.Expr {
	e := list(whole)
	t := whole
	for range n - 1 {
		t = listOf(t)
		e = list(t, e)
	}
	return e
}

// TestLimits has values that are too large: what follows is not evaluated, and a call whose kid is too large names nothing.
func TestLimits(t *testing.T) {
	p := func(e api.Expr) api.Prog {
		return prog(
			def(1, api.KRec, whole, api.Expr{}, listOf(whole), whole),
			def(2, api.KCase, whole, api.Expr{}, whole, listOf(whole)),
			def(4, api.KFun, whole, e),
			def(5, api.KFun, listOf(whole), op(api.Join, v(501), v(501)), listOf(whole)),
			def(6, api.KFun, whole, num(6), listOf(whole), whole),
		)
	}
	for _, x := range []struct {
		what string
		e    api.Expr
		defs []int
	}{
		{"a list of 257 nodes", op(api.Len, zeros(256)), []int{4}},
		{"a list of the depth 25", op(api.Len, list(whole, nested(24))), []int{4}},
		{"a list of the depth 26, of which all nodes are evaluated", op(api.Len, list(whole, nested(25))), []int{4}},
		{"a record", op(api.Len, list(whole, rec(1, zeros(254), num(1)), skipped(num(1)))), []int{4}},
		{"a case", op(api.Len, list(whole, one(2, 1, zeros(255)), skipped(num(1)))), []int{4}},
		{"an operation", op(api.Len, op(api.Join, zeros(128), zeros(128))), []int{4}},
		{"a first kid of a call", call(6, zeros(256), skipped(num(1))), []int{4}},
		{"a last kid of a call", call(6, zeros(3), zeros(256)), []int{4}},
		{"a kid of a call of which the others have called", call(6, call(5, nums(1)), zeros(256)), []int{4, 5}},
		{"a body of a call", op(api.Add, op(api.Len, call(5, zeros(128))), skipped(num(1))), []int{4, 5}},
		{"a call in a kid of a call", call(6, call(5, zeros(128)), skipped(num(1))), []int{4, 5}},
		{"a condition", cond(op(api.Same, zeros(1), zeros(256)), skipped(num(1)), skipped(num(2))), []int{4}},
		{"a let", let(10, zeros(256), skipped(call(6, v(10), num(1)))), []int{4}},
		{"a fold with a large list", fold(10, zeros(256), skipped(num(1)), skipped(nth(10, 0))), []int{4}},
		{"a fold with a large beginning", op(api.Len, fold(10, nums(1), zeros(256), skipped(nth(10, 1)))), []int{4}},
		{"a fold whose second value is too large", op(api.Len, fold(10, nums(1, 2, 3), zeros(64), cond(op(api.Less, nth(10, 0), num(3)), call(5, nth(10, 1)), skipped(zeros(0))))), []int{4, 5}},
		{"a match", match(10, 2, one(2, 1, zeros(255)), skipped(num(1)), skipped(num(2))), []int{4}},
	} {
		q := p(x.e)
		want := bodies(q, x.defs...)
		if code := traced(t, x.what, q, 4, nil, plenty, want); code != api.ErrLimit {
			t.Errorf("%s does not fail: %d", x.what, code)
		}
		steps := 0
		for code := api.ErrFuel; code == api.ErrFuel; steps++ {
			_, got, next := trace.Call(q, id(4), nil, steps)
			if code = next; code == api.ErrFuel && (!contains(want, got) || len(got.Nodes) > steps) {
				t.Errorf("P12.6: %s asks %v with the fuel %d", x.what, got, steps)
			}
		}
		traced(t, x.what, q, 4, nil, steps-1, want)
	}
	q := p(op(api.Len, zeros(255)))
	wholly(t, "a list of 256 nodes", q, 4, nil, bodies(q, 4))
	q = p(op(api.Len, nested(24)))
	wholly(t, "a list of the depth 24", q, 4, nil, bodies(q, 4))
}

// TestErrors has the errors with the empty trace.
func TestErrors(t *testing.T) {
	p := example(op(api.Mul, v(201), num(2)))
	p.Defs = append(p.Defs, def(3, api.KRec, whole, num(1), whole), def(4, api.KCase, whole, num(1), whole), def(5, 6, whole, num(1)), def(6, -1, whole, num(1)), def(7, api.KFun, whole, num(1), whole, of(3)))
	four := number(4)
	for _, x := range []struct {
		what string
		n    int
		args []api.Value
		fuel int
		want api.Errno
	}{
		{"no definition", 99, nil, plenty, api.ErrNone},
		{"no definition and no fuel", 99, args(four), 0, api.ErrNone},
		{"the ID of a slot", 101, args(four), plenty, api.ErrNone},
		{"the ID of a node", 1000, args(four), plenty, api.ErrNone},
		{"a record", 3, args(four), plenty, api.ErrNone},
		{"a variant", 4, args(four), plenty, api.ErrNone},
		{"a definition of no kind", 5, nil, plenty, api.ErrNone},
		{"a definition of a negative kind", 6, nil, plenty, api.ErrNone},
		{"too few args", 1, nil, plenty, api.ErrArg},
		{"too many args", 1, args(four, four), plenty, api.ErrArg},
		{"too few args and no fuel", 1, nil, 0, api.ErrArg},
		{"an arg of another type", 1, args(boolean(true)), plenty, api.ErrArg},
		{"a number that is too great", 1, args(number(api.MaxInt + 1)), plenty, api.ErrArg},
		{"a last arg of another type", 7, args(four, four), plenty, api.ErrArg},
		{"a part of an arg of another type", 7, args(four, record(boolean(true))), -1, api.ErrArg},
	} {
		v, got, code := trace.Call(p, id(x.n), x.args, x.fuel)
		if code != x.want || !reflect.DeepEqual(v, api.Value{}) || !same(got, trace.Trace{}) {
			t.Errorf("P12.1: %s: %+v, %v, error %d", x.what, v, got, code)
		}
	}
	if v, got, code := trace.Call(api.Prog{}, id(1), nil, plenty); code != api.ErrNone || !equal(v, api.Value{}) || !same(got, trace.Trace{}) {
		t.Errorf("P12.1: a call in an empty program: %+v, %v, error %d", v, got, code)
	}
	v, got, code := trace.Call(p, id(1), args(four), 3)
	if code != api.ErrFuel || !reflect.DeepEqual(v, api.Value{}) || len(got.Nodes) != 3 {
		t.Errorf("P12.1: a call with little fuel: %+v, %v, error %d", v, got, code)
	}
}

// TestIDs has IDs of nodes that others have, too: of other nodes, slots and definitions.
func TestIDs(t *testing.T) {
	e := op(api.Add, v(101), cond(is(0), num(1), num(2)))
	e.ID = id(1)                                                                       // that of the definition
	e.Kids[0].ID = id(101)                                                             // that of the slot
	e.Kids[1].ID, e.Kids[1].Kids[0].ID, e.Kids[1].Kids[1].ID = api.ID{}, id(2), id(50) // none; that of a definition that is not called; of its own, but it is not evaluated
	e.Kids[1].Kids[2].ID = api.ID{Shop: math.MinInt, Seq: -1, Index: math.MaxInt}      // an unusual one
	p := prog(api.Def{ID: id(1), Kind: api.KFun, Slots: []api.Slot{{ID: id(101)}}, Body: e}, def(2, api.KFun, whole, num(1)))
	want := trace.Trace{Defs: ids(1), Nodes: sorted([]api.ID{id(1), id(101), {}, id(2), e.Kids[1].Kids[2].ID})}
	wholly(t, "a function whose nodes have IDs of others", p, 1, args(number(1)), want)
	if want.Nodes[0] != e.Kids[1].Kids[2].ID {
		t.Errorf("P12.1: %v is the first node", want.Nodes[0])
	}
	// A node that is not evaluated has the ID of one that is, and of one that is evaluated before.
	e.Kids[1].Kids[1].ID = id(101)
	wholly(t, "a function with nodes that share an ID", p, 1, args(number(1)), want)
	// IDs that are equal in two of three parts: each of the definitions has its own ID at its node, too.
	l := []api.ID{{}, {Index: 1}, {Seq: 1}, {Shop: 1}, {Index: -1}, {Seq: -1}, {Shop: -1}, {Shop: 1, Seq: 1}, {Shop: 1, Index: 1}, {Seq: 1, Index: 1}, {Shop: 1, Seq: 1, Index: 1}}
	p = api.Prog{}
	var calls api.Expr
	for i, x := range l {
		p.Defs = append(p.Defs, api.Def{ID: x, Kind: api.KFun, Body: api.Expr{ID: x, N: i}})
		calls = cond(is(1), op(api.Add, api.Expr{Kind: api.NCall, Ref: x}, num(i)), calls)
	}
	p.Defs = append(p.Defs, def(8, api.KFun, whole, calls))
	for i, x := range l {
		own := trace.Trace{Defs: []api.ID{x}, Nodes: []api.ID{x}}
		if v, got, code := trace.Call(p, x, nil, 1); !equal(v, number(i)) || !same(got, own) || code != api.OK {
			t.Errorf("P12.1: %v asks %v (error %d)", x, got, code)
		}
	}
	e = list(whole)
	for _, x := range l {
		e.Kids = append(e.Kids, api.Expr{ID: id(77), Kind: api.NCall, Ref: x})
	}
	e.ID = id(77)
	p.Defs = append(p.Defs, api.Def{ID: id(9), Kind: api.KFun, Result: listOf(whole), Body: e})
	_, got, code := trace.Call(p, id(9), nil, plenty)
	if want := (trace.Trace{Defs: sorted(append(ids(9), l...)), Nodes: sorted(append(ids(77), l...))}); !same(got, want) || code != api.OK {
		t.Errorf("P12.1: calls of all ask %v (error %d), not %v", got, code, want)
	}
	if !slices.IsSortedFunc(got.Defs, func(a, b api.ID) int {
		return cmp.Or(cmp.Compare(a.Shop, b.Shop), cmp.Compare(a.Seq, b.Seq), cmp.Compare(a.Index, b.Index))
	}) {
		t.Errorf("P12.1: %v are not in increasing order", got.Defs)
	}
}
