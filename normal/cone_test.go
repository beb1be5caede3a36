package normal_test

import (
	"slices"
	"testing"

	"splicery/api"
	"splicery/normal"
)

// hasCone checks the cone of a definition.
func hasCone(t *testing.T, what string, p api.Prog, n int, want ...int) {
	t.Helper()
	got := normal.Cone(p, id(n))
	if !slices.Equal(got, sorted(ids(want...))) {
		t.Errorf("P14.4: the cone of %s is %v, not %v", what, got, sorted(ids(want...)))
	}
	if rule := coneByRule(p, id(n)); !slices.Equal(got, rule) {
		t.Errorf("P14.4: the cone of %s is %v, by the rule %v", what, got, rule)
	}
}

// TestCone has definitions that name others in all ways.
func TestCone(t *testing.T) {
	p := prog(
		data(20, api.KRec, whole, truth), data(21, api.KCase, listOf(listOf(of(20)))), data(22, api.KRec, of(21)), data(23, api.KRec, whole),
		def(30, api.KFun, whole, v(3001), whole), def(31, api.KFun, whole, call(30, v(3101)), of(22)), def(32, api.KFun, listOf(of(23)), num(1)),
		def(33, api.KFun, whole, op(api.Sub, not(not(call(31))), v(7))), def(34, api.KTest, whole, cond(is(0), call(32), num(1)), of(23)), def(35, api.KConv, of(21), v(3501), of(20)), def(36, api.KOn, of(23), rec(20), of(22), of(21)),
	)
	hasCone(t, "a record", p, 20, 20)
	hasCone(t, "a variant of lists", p, 21, 20, 21)
	hasCone(t, "a record of a variant", p, 22, 20, 21, 22)
	hasCone(t, "a function that names nothing", p, 30, 30)
	hasCone(t, "a function with a call and a slot", p, 31, 20, 21, 22, 30, 31)
	hasCone(t, "a function with a result", p, 32, 23, 32)
	hasCone(t, "a function with a call further down", p, 33, 20, 21, 22, 30, 31, 33)
	hasCone(t, "a test with a branch that is gone in the normal form", p, 34, 23, 32, 34)
	hasCone(t, "a converter", p, 35, 20, 21, 35)
	hasCone(t, "a handler", p, 36, 20, 21, 22, 23, 36)
	hasCone(t, "nothing", p, 77)
	hasCone(t, "nothing in a program of nothing", prog(), 20)
	for what, e := range map[string]api.Expr{"a call": call(20), "a record": rec(20), "a field": field(20, 0, num(1)), "a case": one(20, 0, num(1)), "a match": match(50, 20, num(1), num(2)), "a list": list(of(20)), "a list of lists": list(listOf(listOf(of(20)))), "a list in a let": let(50, list(of(20)), v(50)), "the last kid": fold(50, v(1), v(1), rec(20)), "a node with a kid": rec(20, num(1))} {
		hasCone(t, what, prog(data(20, api.KRec, of(23)), data(23, api.KRec), def(30, api.KFun, whole, e)), 30, 20, 23, 30)
	}
	for what, e := range map[string]api.Expr{"a number": num(1), "a variable": v(20), "an operation": not(num(1)), "a condition": cond(num(1)), "a let": let(50, num(1)), "a list": list(whole), "a fold": fold(50, num(1))} {
		if e.Ref = id(20); e.Kind != api.NList {
			e.Type = of(20)
		}
		hasCone(t, what, prog(data(20, api.KRec, of(23)), data(23, api.KRec), def(30, api.KFun, whole, e)), 30, 30)
	}
	d := data(30, api.KCase, whole)
	d.Result, d.Body = of(20), rec(20)
	hasCone(t, "a variant with a result and a body", prog(d, data(20, api.KRec)), 30, 30)
}

// TestConeOfAny has definitions that are missing, that depend on themselves, and with the same ID.
func TestConeOfAny(t *testing.T) {
	hasCone(t, "a record of nothing", prog(data(20, api.KRec, of(77), of(21)), data(21, api.KRec)), 20, 20, 21)
	hasCone(t, "a function of nothing", prog(def(30, api.KFun, of(77), call(78, call(79), rec(20))), data(20, api.KRec)), 30, 20, 30)
	hasCone(t, "a record of itself", prog(data(20, api.KRec, of(20))), 20, 20)
	hasCone(t, "records of each other", prog(data(20, api.KRec, of(21)), data(21, api.KRec, of(22), of(20)), data(22, api.KRec, of(20), of(77))), 20, 20, 21, 22)
	hasCone(t, "a record of records of themselves", prog(data(20, api.KRec, of(21), of(22)), data(21, api.KRec, of(21)), data(22, api.KRec, of(22))), 20, 20, 21, 22)
	hasCone(t, "the first one of two", prog(data(20, api.KRec, of(21)), data(20, api.KRec, of(22)), data(21, api.KRec), data(22, api.KRec)), 20, 20, 21)
	hasCone(t, "a name of the first one of two", prog(data(30, api.KRec, of(20)), data(20, api.KRec, of(21)), data(20, api.KRec, of(22)), data(21, api.KRec), data(22, api.KRec)), 30, 20, 21, 30)
}
