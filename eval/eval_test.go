package eval_test

import (
	"math"
	"reflect"
	"strconv"
	"testing"

	"splicery/api"
	"splicery/check"
	"splicery/eval"
)

// The functions of the package have these types.
var (
	_ func(api.Prog, api.ID, []api.Value, int) (api.Value, int, api.Errno) = eval.Call
	_ func(api.Prog, api.Expr, int) (api.Value, int, api.Errno)            = eval.Expr
	_ func(int, []api.Value) api.Value                                     = eval.Op
	_ func(api.Prog, api.ID) int                                           = eval.Most
)

const plenty = 1 << 40 // fuel

// id returns the ID with an index.
func id(n int) api.ID { return api.ID{Shop: 1, Seq: 2, Index: n} }

var (
	whole = api.Type{}
	truth = api.Type{Kind: api.TBool}
)

func of(n int) api.Type { return api.Type{Kind: api.TDef, Def: id(n)} }

func listOf(t api.Type) api.Type { return api.Type{Kind: api.TList, Kids: []api.Type{t}} }

// Values.

func number(n int) api.Value { return api.Value{Kind: api.VInt, N: n} }

func boolean(is bool) api.Value {
	if is {
		return api.Value{Kind: api.VBool, N: 1}
	}
	return api.Value{Kind: api.VBool}
}

func record(l ...api.Value) api.Value { return api.Value{Kind: api.VRec, Kids: l} }

func variant(n int, v api.Value) api.Value {
	return api.Value{Kind: api.VCase, N: n, Kids: []api.Value{v}}
}

func values(l ...api.Value) api.Value { return api.Value{Kind: api.VList, Kids: l} }

func numbers(l ...int) api.Value {
	v := values()
	for _, n := range l {
		v.Kids = append(v.Kids, number(n))
	}
	return v
}

// Nodes. Those that bind nothing have no ID of their own.

func num(n int) api.Expr { return api.Expr{Kind: api.NInt, N: n} }

func is(n int) api.Expr { return api.Expr{Kind: api.NBool, N: n} }

// v returns a variable of a slot, or of the only name of a node.
func v(ref int) api.Expr { return nth(ref, 0) }

// nth returns a variable of a name of a node.
func nth(ref, n int) api.Expr { return api.Expr{Kind: api.NVar, Ref: id(ref), N: n} }

func call(ref int, kids ...api.Expr) api.Expr {
	return api.Expr{Kind: api.NCall, Ref: id(ref), Kids: kids}
}

func op(n int, kids ...api.Expr) api.Expr { return api.Expr{Kind: api.NOp, N: n, Kids: kids} }

func cond(kids ...api.Expr) api.Expr { return api.Expr{Kind: api.NIf, Kids: kids} }

func let(n int, kids ...api.Expr) api.Expr { return api.Expr{ID: id(n), Kind: api.NLet, Kids: kids} }

func rec(ref int, kids ...api.Expr) api.Expr {
	return api.Expr{Kind: api.NRec, Ref: id(ref), Kids: kids}
}

func field(ref, n int, kid api.Expr) api.Expr {
	return api.Expr{Kind: api.NField, Ref: id(ref), N: n, Kids: []api.Expr{kid}}
}

// one returns a node for the case n of a variant.
func one(ref, n int, kid api.Expr) api.Expr {
	return api.Expr{Kind: api.NCase, Ref: id(ref), N: n, Kids: []api.Expr{kid}}
}

func match(n, ref int, kids ...api.Expr) api.Expr {
	return api.Expr{ID: id(n), Kind: api.NMatch, Ref: id(ref), Kids: kids}
}

func list(t api.Type, kids ...api.Expr) api.Expr {
	return api.Expr{Kind: api.NList, Type: t, Kids: kids}
}

// nums returns a list of numbers.
func nums(l ...int) api.Expr {
	e := list(whole)
	for _, n := range l {
		e.Kids = append(e.Kids, num(n))
	}
	return e
}

func fold(n int, kids ...api.Expr) api.Expr {
	return api.Expr{ID: id(n), Kind: api.NFold, Kids: kids}
}

// def returns the definition n, whose slots have the IDs 100 * n + 1, and so on.
func def(n, kind int, result api.Type, body api.Expr, l ...api.Type) api.Def {
	d := api.Def{ID: id(n), Kind: kind, Mod: id(90), Name: "d" + strconv.Itoa(n), Result: result, Body: body, Place: n}
	for i, t := range l {
		d.Slots = append(d.Slots, api.Slot{ID: id(100*n + 1 + i), Name: string(rune('a' + i)), Type: t, Place: i})
	}
	return d
}

func prog(l ...api.Def) api.Prog { return api.Prog{Defs: l} }

// The definitions of world.
const (
	recP, caseE, recR, funF, onO, testT, convC = 1, 2, 3, 4, 5, 6, 7
	none                                       = 99
)

// world is a sound program with a definition of each kind: a record P (Int, Bool), a variant E (Int, P) of events, a record R (P, List(Int), Int) of what a handler makes; a function f (a Int, p P) Int = a + 1, a handler, a test that calls f, and a converter.
func world() api.Prog {
	return prog(
		def(recP, api.KRec, whole, api.Expr{}, whole, truth),
		def(caseE, api.KCase, whole, api.Expr{}, whole, of(recP)),
		def(recR, api.KRec, whole, api.Expr{}, of(recP), listOf(whole), whole),
		def(funF, api.KFun, whole, op(api.Add, v(401), num(1)), whole, of(recP)),
		def(onO, api.KOn, of(recR), rec(recR, v(501), nums(7, 8), num(3)), of(recP), of(caseE)),
		def(testT, api.KTest, truth, op(api.Less, call(funF, v(601), rec(recP, v(601), v(602))), num(3)), whole, truth),
		def(convC, api.KConv, listOf(of(recP)), list(of(recP), v(701), v(701)), of(recP)),
	)
}

// with returns the world with further definitions behind it.
func with(l ...api.Def) api.Prog { return prog(append(world().Defs, l...)...) }

// equal reports whether two values are equal, where nil and empty lists are the same.
func equal(a, b api.Value) bool {
	if a.Kind != b.Kind || a.N != b.N || len(a.Kids) != len(b.Kids) {
		return false
	}
	for i := range a.Kids {
		if !equal(a.Kids[i], b.Kids[i]) {
			return false
		}
	}
	return true
}

// runner evaluates something with so much fuel.
type runner func(fuel int) (api.Value, int, api.Errno)

func expr(p api.Prog, e api.Expr) runner {
	return func(fuel int) (api.Value, int, api.Errno) { return eval.Expr(p, e, fuel) }
}

func calls(p api.Prog, n int, args ...api.Value) runner {
	return func(fuel int) (api.Value, int, api.Errno) { return eval.Call(p, id(n), args, fuel) }
}

// gives checks that what is evaluated has a value after so many steps, with just enough fuel and with more, and fails with less.
func gives(t *testing.T, what string, run runner, want api.Value, steps int) {
	t.Helper()
	for _, fuel := range []int{steps, steps + 1, 2 * steps, plenty, math.MaxInt} {
		if got, n, code := run(fuel); !equal(got, want) || n != steps || code != api.OK {
			t.Fatalf("P11.1, P11.2: %s is %+v after %d steps (error %d) with the fuel %d, not %+v after %d", what, got, n, code, fuel, want, steps)
		}
	}
	tooLittle(t, what, run, steps)
}

// tooLittle checks that what is evaluated fails with ErrFuel with any fuel below a number.
func tooLittle(t *testing.T, what string, run runner, steps int) {
	t.Helper()
	for _, fuel := range []int{steps - 1, steps / 2, 1, 0, -1, -steps, -plenty, math.MinInt} {
		if fuel < steps {
			fails(t, what, run, fuel, api.ErrFuel)
		}
	}
}

// fails checks that what is evaluated fails, with zero results.
func fails(t *testing.T, what string, run runner, fuel int, want api.Errno) {
	t.Helper()
	if got, n, code := run(fuel); code != want || n != 0 || !reflect.DeepEqual(got, api.Value{}) {
		t.Fatalf("P11.1, P11.2: %s is %+v after %d steps (error %d) with the fuel %d, not the error %d", what, got, n, code, fuel, want)
	}
}

// failsAfter checks that what is evaluated fails as soon as it has had so many steps, and with ErrFuel if it cannot have them.
func failsAfter(t *testing.T, what string, run runner, steps int, want api.Errno) {
	t.Helper()
	for _, fuel := range []int{steps, steps + 1, plenty} {
		fails(t, what, run, fuel, want)
	}
	tooLittle(t, what, run, steps)
}

func TestExamples(t *testing.T) {
	sum := expr(api.Prog{}, op(api.Add, num(2), num(3)))
	gives(t, "2 + 3", sum, number(5), 3)
	fails(t, "2 + 3", sum, 2, api.ErrFuel)
	gives(t, "MaxInt * 2", expr(api.Prog{}, op(api.Mul, num(api.MaxInt), num(2))), number(api.MaxInt), 3)
	gives(t, "-7 / 2", expr(api.Prog{}, op(api.Div, num(-7), num(2))), number(-4), 3)
	gives(t, "-7 % 2", expr(api.Prog{}, op(api.Rem, num(-7), num(2))), number(1), 3)
	gives(t, "a sum of a list", expr(api.Prog{}, fold(10, nums(1, 2), num(10), op(api.Add, nth(10, 0), nth(10, 1)))), number(13), 11)
	f := prog(def(1, api.KFun, whole, op(api.Add, v(101), num(1)), whole))
	gives(t, "f of 4", calls(f, 1, number(4)), number(5), 3) // example 1 of the document
	if n := eval.Most(f, id(1)); n != 3 {
		t.Errorf("P11.4: a call of f has at most %d steps", n)
	}
}

// TestNodes has each kind of node.
func TestNodes(t *testing.T) {
	p := with(
		def(20, api.KFun, whole, num(5)),
		def(21, api.KFun, whole, op(api.Sub, v(2101), v(2102)), whole, whole),
		def(22, api.KCase, whole, api.Expr{}, whole, whole, truth),
	)
	if l := check.All(p); len(l) > 0 {
		t.Fatalf("the program is not sound: %+v", l)
	}
	costly := op(api.Add, num(1), num(2)) // 3 steps
	for _, x := range []struct {
		what  string
		e     api.Expr
		want  api.Value
		steps int
	}{
		{"a number", num(5), number(5), 1},
		{"the least number", num(-api.MaxInt), number(-api.MaxInt), 1},
		{"the greatest number", num(api.MaxInt), number(api.MaxInt), 1},
		{"true", is(1), boolean(true), 1},
		{"false", is(0), boolean(false), 1},
		{"a variable", let(10, num(3), v(10)), number(3), 3},
		{"a call without kids", call(20), number(5), 2},
		{"a call with kids in order", call(21, num(9), costly), number(6), 8},
		{"a call as a kid of a call", call(21, call(20), call(21, num(1), num(3))), number(7), 12},
		{"an operation", op(api.Mul, costly, num(4)), number(12), 5},
		{"an operation with one kid", op(api.Not, is(0)), boolean(true), 2},
		{"a condition that is true", cond(is(1), num(2), costly), number(2), 3},
		{"a condition that is false", cond(is(0), costly, num(2)), number(2), 3},
		{"a condition in front of more steps", cond(op(api.Not, is(0)), costly, num(2)), number(3), 6},
		{"a let", let(10, costly, op(api.Mul, v(10), v(10))), number(9), 7},
		{"a let without its variable", let(10, costly, num(1)), number(1), 5},
		{"a record", rec(recP, costly, is(1)), record(number(3), boolean(true)), 5},
		{"the first field", field(recP, 0, rec(recP, num(4), is(1))), number(4), 4},
		{"the last field", field(recP, 1, rec(recP, num(4), is(1))), boolean(true), 4},
		{"the first case", one(caseE, 0, costly), variant(0, number(3)), 4},
		{"the last case", one(caseE, 1, rec(recP, num(4), is(1))), variant(1, record(number(4), boolean(true))), 4},
		{"a match of the first case", match(10, 22, one(22, 0, num(4)), op(api.Add, nth(10, 0), num(1)), num(7), costly), number(5), 6},
		{"a match of the second case", match(10, 22, one(22, 1, costly), costly, nth(10, 1), costly), number(3), 6},
		{"a match of the last case", match(10, 22, one(22, 2, is(1)), num(1), num(2), cond(nth(10, 2), num(3), costly)), number(3), 6},
		{"a list without elements", list(truth), values(), 1},
		{"a list", list(whole, costly, num(1), costly), numbers(3, 1, 3), 8},
		{"a list of lists", list(listOf(whole), nums(), nums(1)), values(values(), numbers(1)), 4},
		{"a fold over an empty list", fold(10, nums(), costly, op(api.Add, num(1), costly)), number(3), 5},
		{"a fold over one element", fold(10, nums(4), costly, op(api.Sub, nth(10, 0), nth(10, 1))), number(1), 9},
		{"a fold over several elements", fold(10, nums(1, 2, 3), num(100), op(api.Sub, nth(10, 0), nth(10, 1))), number(3 - (2 - (1 - 100))), 15},
		{"a fold in order", fold(10, nums(1, 2, 3), nums(), op(api.Join, nth(10, 1), list(whole, nth(10, 0)))), numbers(1, 2, 3), 18},
		{"a fold with neither variable", fold(10, nums(1, 2), num(9), costly), number(3), 11},
		{"a fold in the list of a fold", fold(10, fold(11, nums(1, 2), nums(), op(api.Join, nth(11, 1), list(whole, nth(11, 0), nth(11, 0)))), num(0), op(api.Add, nth(10, 0), nth(10, 1))), number(6), 29},
		{"a fold in the beginning of a fold", fold(10, nums(5), fold(11, nums(1, 2), num(1), op(api.Add, nth(11, 0), nth(11, 1))), op(api.Mul, nth(10, 0), nth(10, 1))), number(20), 17},
		{"a fold in the step of a fold", fold(10, nums(1, 10), num(0), fold(11, nums(1, 2), nth(10, 1), op(api.Add, nth(11, 1), op(api.Mul, nth(11, 0), nth(10, 0))))), number(33), 35},
	} {
		gives(t, x.what, expr(p, x.e), x.want, x.steps)
	}
}

// TestBoth has operations whose kids are both evaluated, whatever the first one is.
func TestBoth(t *testing.T) {
	large := op(api.Same, list(whole, make([]api.Expr, 256)...), nums()) // fails after 258 steps
	for a := range 2 {
		for b := range 2 {
			kids := []api.Expr{is(a), op(api.Not, is(1-b))}
			gives(t, "and", expr(api.Prog{}, op(api.And, kids...)), boolean(a+b == 2), 4)
			gives(t, "or", expr(api.Prog{}, op(api.Or, kids...)), boolean(a+b > 0), 4)
		}
		for _, n := range []int{api.And, api.Or} {
			failsAfter(t, "an operation with a second kid that fails", expr(api.Prog{}, op(n, is(a), large)), 2+258, api.ErrLimit)
		}
		branches := []api.Expr{is(a), is(1), is(1)}
		branches[2-a] = large
		failsAfter(t, "a branch that is not evaluated", expr(api.Prog{}, op(api.And, cond(is(a), is(1), is(1)), large)), 4+258, api.ErrLimit)
		branches[1], branches[2] = branches[2], branches[1]
		gives(t, "a condition with another branch that would fail", expr(api.Prog{}, cond(branches...)), boolean(true), 3)
		cases := []api.Expr{one(22, a, num(1)), large, large}
		cases[1+a] = is(1)
		gives(t, "a match with another branch that would fail", expr(prog(def(22, api.KCase, whole, api.Expr{}, whole, whole)), match(10, 22, cases...)), boolean(true), 4)
	}
}

// TestVariables has names that are bound more than once: the innermost binding counts, and ends with its node.
func TestVariables(t *testing.T) {
	sum := func(l ...api.Expr) api.Expr { // of numbers below 10, as digits
		e := num(0)
		for _, x := range l {
			e = op(api.Add, op(api.Mul, num(10), e), x)
		}
		return e
	}
	p := prog(
		def(1, api.KFun, whole, let(101, op(api.Add, v(101), num(1)), v(101)), whole),
		def(2, api.KFun, whole, sum(v(201), call(3, num(2)), v(201)), whole),
		def(3, api.KFun, whole, v(301), whole),
		def(4, api.KFun, whole, sum(let(10, num(5), let(11, num(6), sum(v(10), v(11))))), whole),
		def(5, api.KFun, whole, sum(v(501), v(502)), whole, whole),
		def(6, api.KCase, whole, api.Expr{}, whole, whole),
		def(7, api.KFun, whole, fold(10, nums(1, 2), v(701), sum(nth(10, 1), nth(10, 0))), whole),
	)
	p.Defs[2].Slots[0].ID = id(201) // f3 has the slot of f2
	p.Defs[2].Body = sum(v(201))
	for _, x := range []struct {
		what string
		e    api.Expr
		want int
	}{
		{"a let in a let", let(10, num(1), sum(v(10), let(10, num(2), v(10)), v(10))), 121},
		{"a let in the value of a let", let(10, let(10, num(1), sum(v(10), v(10))), sum(v(10), v(10))), 121},
		{"a let of itself", let(10, num(1), let(10, op(api.Add, v(10), num(1)), v(10))), 2},
		{"a let of a slot", call(1, num(1)), 2},
		{"a call that binds the same slot", call(2, num(1)), 121},
		{"a call that binds the same slot as a let", let(201, num(1), sum(v(201), call(2, num(3)), v(201))), 1*100 + 3230 + 1},
		{"a call that binds the same nodes", let(10, num(1), let(11, num(2), sum(v(10), v(11), call(4, num(0)), v(10), v(11)))), 17612},
		{"a call in its own kid", call(3, call(3, call(2, num(4)))), 424},
		{"a fold in a fold", fold(10, nums(1, 2), num(0), sum(nth(10, 1), fold(10, nums(3), nth(10, 0), sum(nth(10, 1), nth(10, 0))), nth(10, 0))), 0},
		{"a fold and its call", fold(10, nums(1, 2), num(0), sum(nth(10, 1), call(7, nth(10, 0)), nth(10, 0))), 0},
		{"a match in a match", match(10, 6, one(6, 1, num(4)), num(0), sum(nth(10, 1), match(10, 6, one(6, 1, num(5)), num(0), nth(10, 1)), match(10, 6, one(6, 0, num(6)), sum(nth(10, 0), nth(10, 1)), num(0)), nth(10, 1))), 5144},
		{"a fold in a let", let(10, num(7), sum(fold(10, nums(1, 2), v(10), sum(nth(10, 1), nth(10, 0))), v(10))), 7127},
		{"a let in a fold", fold(10, nums(1, 2), num(3), sum(let(10, num(4), sum(v(10), nth(10, 1))), nth(10, 0))), 0},
		{"two slots with different IDs", call(5, num(1), num(2)), 12},
	} {
		got, _, code := eval.Expr(p, x.e, plenty)
		want, _, wantCode := exprByRule(p, x.e, plenty)
		if !equal(got, want) || code != wantCode || code != api.OK || x.want != 0 && got.N != x.want {
			t.Errorf("P11.2: %s is %+v (error %d), not %+v, %d", x.what, got, code, want, x.want)
		}
	}
	p.Defs[4].Slots[1].ID = id(501) // then the last slot with the ID counts
	p.Defs[4].Body = v(501)
	gives(t, "two slots with one ID", expr(p, call(5, num(1), num(2))), number(2), 4)
	gives(t, "two slots with one ID", calls(p, 5, number(1), number(2)), number(2), 1)
}

// TestIDs has IDs of nodes that bind nothing, which do not matter, and IDs that differ in one part only.
func TestIDs(t *testing.T) {
	e := op(api.Add, v(10), v(10))
	for i := range e.Kids {
		e.Kids[i].ID = id(10)
	}
	e.ID = id(10)
	gives(t, "nodes with one ID", expr(api.Prog{}, let(10, num(2), e)), number(4), 5)
	others := []api.ID{{}, {Shop: 1, Seq: 2, Index: 3}, {Shop: 2, Seq: 2, Index: 3}, {Shop: 1, Seq: 3, Index: 3}, {Shop: 1, Seq: 2, Index: 4}, {Shop: -1, Seq: 2, Index: 3}, {Shop: 1, Seq: -2, Index: 3}, {Shop: 1, Seq: 2, Index: -3}, {Shop: 3, Seq: 2, Index: 1}}
	for i := range others {
		e := api.Expr{Kind: api.NVar, Ref: others[i]}
		var p api.Prog
		for j, x := range others {
			e = api.Expr{ID: x, Kind: api.NLet, Kids: []api.Expr{num(j), e}}
			p.Defs = append(p.Defs, api.Def{ID: x, Kind: api.KFun, Body: num(j)})
		}
		gives(t, "a variable among others", expr(api.Prog{}, e), number(i), 2*len(others)+1)
		gives(t, "a call among others", expr(p, api.Expr{Kind: api.NCall, Ref: others[i]}), number(i), 2)
		if v, _, code := eval.Call(p, others[i], nil, 1); !equal(v, number(i)) || code != api.OK {
			t.Errorf("P11.1: the definition %v has the value %+v (error %d)", others[i], v, code)
		}
	}
}

// TestKinds calls definitions of each kind that has a body, by Call and by a node.
func TestKinds(t *testing.T) {
	p := world()
	if l := check.All(p); len(l) > 0 {
		t.Fatalf("the program is not sound: %+v", l)
	}
	state, stateNode := record(number(5), boolean(true)), rec(recP, num(5), is(1))
	for _, x := range []struct {
		n     int
		args  []api.Value
		kids  []api.Expr
		want  api.Value
		steps int // of the body
	}{
		{funF, []api.Value{number(4), state}, []api.Expr{num(4), stateNode}, number(5), 3},
		{onO, []api.Value{state, variant(0, number(1))}, []api.Expr{stateNode, one(caseE, 0, num(1))}, record(state, numbers(7, 8), number(3)), 6},
		{onO, []api.Value{state, variant(1, state)}, []api.Expr{stateNode, one(caseE, 1, stateNode)}, record(state, numbers(7, 8), number(3)), 6},
		{testT, []api.Value{number(1), boolean(true)}, []api.Expr{num(1), is(1)}, boolean(true), 10},
		{testT, []api.Value{number(99), boolean(false)}, []api.Expr{num(99), is(0)}, boolean(false), 10},
		{convC, []api.Value{state}, []api.Expr{stateNode}, values(state, state), 3},
	} {
		gives(t, "a call of d"+strconv.Itoa(x.n), calls(p, x.n, x.args...), x.want, x.steps)
		kids := 0
		for i, kid := range x.kids {
			v, n, code := eval.Expr(p, kid, plenty)
			if !equal(v, x.args[i]) || code != api.OK {
				t.Fatalf("P11.2: %+v has the value %+v (error %d)", kid, v, code)
			}
			kids += n
		}
		gives(t, "a node that calls d"+strconv.Itoa(x.n), expr(p, call(x.n, x.kids...)), x.want, 1+kids+x.steps) // P11.9
	}
	for _, n := range []int{recP, caseE, recR} {
		fails(t, "a call of a type", calls(p, n, number(1), boolean(true)), plenty, api.ErrNone)
	}
}

// TestErrors has the errors of Call, alone and together: the first one in their order counts.
func TestErrors(t *testing.T) {
	p := with(def(8, api.KFun, whole, num(1)), def(9, 6, whole, num(1)), def(10, -1, whole, num(1)), def(11, api.KFun, listOf(whole), list(whole, make([]api.Expr, 256)...), whole))
	state := record(number(5), boolean(true))
	good := []api.Value{number(4), state}
	for _, x := range []struct {
		what string
		n    int
		args []api.Value
		fuel int
		want api.Errno
	}{
		{"no definition", none, nil, plenty, api.ErrNone},
		{"no definition, and args, and no fuel", none, good, 0, api.ErrNone},
		{"the ID of a slot", 401, nil, plenty, api.ErrNone},
		{"a record", recP, []api.Value{number(1), boolean(true)}, plenty, api.ErrNone},
		{"a variant", caseE, []api.Value{number(1), state}, plenty, api.ErrNone},
		{"a record with too few args and no fuel", recP, nil, 0, api.ErrNone},
		{"a definition of no kind", 9, nil, plenty, api.ErrNone},
		{"a definition of a negative kind", 10, nil, plenty, api.ErrNone},
		{"no args", funF, nil, plenty, api.ErrArg},
		{"too few args", funF, good[:1], plenty, api.ErrArg},
		{"too many args", funF, append(good[:2:2], number(4)), plenty, api.ErrArg},
		{"an arg for no slot", 8, good[:1], plenty, api.ErrArg},
		{"a first arg of another type", funF, []api.Value{boolean(true), state}, plenty, api.ErrArg},
		{"a last arg of another type", funF, []api.Value{number(4), number(4)}, plenty, api.ErrArg},
		{"args in another order", funF, []api.Value{state, number(4)}, plenty, api.ErrArg},
		{"a part of an arg of another type", funF, []api.Value{number(4), record(boolean(true), boolean(true))}, plenty, api.ErrArg},
		{"a number that is too great", funF, []api.Value{number(api.MaxInt + 1), state}, plenty, api.ErrArg},
		{"a number that is too small", funF, []api.Value{number(-api.MaxInt - 1), state}, plenty, api.ErrArg},
		{"a case that does not exist", onO, []api.Value{state, variant(2, state)}, plenty, api.ErrArg},
		{"a value of no kind", funF, []api.Value{{Kind: 5}, state}, plenty, api.ErrArg},
		{"too few args and no fuel", funF, good[:1], 0, api.ErrArg},
		{"an arg of another type and no fuel", funF, []api.Value{number(4), number(4)}, -1, api.ErrArg},
		{"an arg of another type in front of a body that fails", 11, []api.Value{boolean(true)}, plenty, api.ErrArg},
		{"no fuel", funF, good, 0, api.ErrFuel},
		{"negative fuel", funF, good, math.MinInt, api.ErrFuel},
		{"too little fuel", funF, good, 2, api.ErrFuel},
		{"too little fuel for a body that is too large", 11, []api.Value{number(1)}, 256, api.ErrFuel},
		{"a body that is too large", 11, []api.Value{number(1)}, 257, api.ErrLimit},
	} {
		fails(t, x.what, calls(p, x.n, x.args...), x.fuel, x.want)
	}
	gives(t, "the same with right args", calls(p, funF, good...), number(5), 3)
	fails(t, "a call in an empty program", calls(api.Prog{}, 1), plenty, api.ErrNone)
}

// TestTwice has several definitions with one ID: the first one counts.
func TestTwice(t *testing.T) {
	f, g, r := def(8, api.KFun, whole, v(801), whole), def(8, api.KFun, whole, num(2)), def(8, api.KRec, whole, api.Expr{}, whole)
	user := def(9, api.KFun, whole, call(8, num(1)))
	last := def(10, api.KFun, whole, num(3))
	one := number(1)
	gives(t, "the first of two functions", calls(prog(user, f, g, r), 8, one), one, 1)
	gives(t, "a call of the first of two functions", calls(prog(user, f, g, r), 9), one, 3)
	fails(t, "a call with the args of the second function", calls(prog(f, g), 8), plenty, api.ErrArg)
	gives(t, "the same in another order", calls(prog(g, f), 8), number(2), 1)
	fails(t, "a function behind a record", calls(prog(r, f), 8, one), plenty, api.ErrNone)
	gives(t, "a record behind a function", calls(prog(last, f, r), 8, one), one, 1)
	// The type of a slot names the first definition, too.
	user = def(9, api.KFun, of(8), v(901), of(8))
	gives(t, "an arg of the first of two types", calls(prog(user, r, def(8, api.KCase, whole, api.Expr{}, whole)), 9, record(one)), record(one), 1)
	fails(t, "an arg of the second of two types", calls(prog(user, r, def(8, api.KCase, whole, api.Expr{}, whole)), 9, variant(0, one)), plenty, api.ErrArg)
	for _, p := range []api.Prog{prog(f, g, last), prog(f, r, last)} {
		if n := eval.Most(p, id(8)); n != 1 {
			t.Errorf("P11.4: the first of two definitions has the bound %d", n)
		}
	}
	if n := eval.Most(prog(r, f), id(8)); n != -1 {
		t.Errorf("P11.4: a record in front of a function has the bound %d", n)
	}
}
