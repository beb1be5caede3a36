package eval_test

import (
	"math"
	"slices"
	"testing"

	"splicery/api"
	"splicery/eval"
)

// bounded checks the bound of a definition.
func bounded(t *testing.T, what string, p api.Prog, n, want int) {
	t.Helper()
	if got := eval.Most(p, id(n)); got != want {
		t.Errorf("P11.4: %s has the bound %d, not %d", what, got, want)
	}
}

// steps returns an expression with a bound of at least 1.
func steps(n int) api.Expr { return zeros(n - 1) }

// TestBounds has a body of each kind of node.
func TestBounds(t *testing.T) {
	p := with(def(20, api.KFun, whole, num(5)), def(21, api.KConv, whole, steps(10), whole))
	for _, x := range []struct {
		what string
		e    api.Expr
		want int
	}{
		{"a number", num(1), 1},
		{"a truth value", is(1), 1},
		{"a variable", v(801), 1},
		{"a sum", op(api.Add, steps(10), steps(5)), 16},
		{"a negation", op(api.Not, steps(10)), 11},
		{"an and", op(api.And, steps(10), steps(5)), 16},
		{"a condition with a greater first branch", cond(steps(3), steps(10), steps(5)), 14},
		{"a condition with a greater second branch", cond(steps(3), steps(5), steps(10)), 14},
		{"a condition with equal branches", cond(steps(3), steps(5), steps(5)), 9},
		{"a condition with a greater condition", cond(steps(100), steps(5), steps(5)), 106},
		{"a let", let(10, steps(3), steps(5)), 9},
		{"a record", rec(recR, steps(3), steps(4), steps(5)), 13},
		{"a field", field(recP, 1, steps(5)), 6},
		{"a case", one(caseE, 1, steps(5)), 6},
		{"a match of one case", match(10, caseE, steps(3), steps(5)), 9},
		{"a match with a greater first branch", match(10, caseE, steps(3), steps(10), steps(5), steps(7)), 14},
		{"a match with a greater branch between others", match(10, caseE, steps(3), steps(5), steps(10), steps(7)), 14},
		{"a match with a greater last branch", match(10, caseE, steps(3), steps(5), steps(7), steps(10)), 14},
		{"a match with a greater head", match(10, caseE, steps(30), steps(5), steps(7)), 38},
		{"an empty list", list(whole), 1},
		{"a list", list(whole, steps(3), steps(5)), 9},
		{"a call", call(20), 2},
		{"a call with a kid", call(21, steps(5)), 16},
		{"two calls", op(api.Add, call(20), call(20)), 5},
		{"a call of a call", call(21, call(21, num(1))), 23},
		{"a call of a function of the world", call(funF, num(1), rec(recP, num(1), is(1))), 8},
		{"a call of the handler", call(onO, num(1), num(2)), 9},
		{"a call of the test", call(testT, num(1), num(2)), 13},
		{"a call of the converter", call(convC, num(1)), 5},
		{"a branch that calls", cond(is(1), call(21, num(1)), steps(5)), 14},
		{"a branch below another one", cond(is(1), steps(2), cond(is(1), steps(9), steps(4))), 13},
		{"a list in a sum in a list", list(whole, op(api.Add, list(whole, num(1)), num(1))), 5},
	} {
		for kind := api.KFun; kind <= api.KConv; kind++ {
			bounded(t, x.what, prog(append(p.Defs, def(8, kind, whole, x.e, whole))...), 8, x.want)
		}
	}
	for n, want := range map[int]int{funF: 3, onO: 6, testT: 10, convC: 3, 20: 1, 21: 10} {
		bounded(t, "a definition of the world", p, n, want)
	}
}

// TestNoBound has definitions without a body, and those with a fold.
func TestNoBound(t *testing.T) {
	f := fold(10, nums(), num(1), num(2)) // even if its list is empty
	p := with(
		def(20, api.KFun, whole, f),
		def(21, api.KFun, whole, call(20)),
		def(22, api.KFun, whole, op(api.Add, call(funF, num(1), num(2)), call(21))),
		def(23, api.KFun, whole, cond(is(1), num(1), f)),
		def(24, api.KFun, whole, cond(is(1), call(22), num(1))),
		def(25, api.KFun, whole, match(11, caseE, one(caseE, 0, num(1)), num(1), call(23))),
		def(26, api.KFun, whole, call(funF, call(21), num(1))),
		def(27, api.KFun, whole, op(api.Add, num(1), call(20))),
		def(28, api.KFun, whole, list(whole, call(29), call(29), call(20))),
		def(29, api.KFun, whole, num(1)),
	)
	for _, n := range []int{20, 21, 22, 23, 24, 25, 26, 27, 28, recP, caseE, recR, none, 0, 401, math.MinInt, math.MaxInt} {
		bounded(t, "what has no bound", p, n, -1)
	}
	bounded(t, "what no fold is called from", p, 29, 1)
	bounded(t, "what is called beside a fold", p, funF, 3)
	bounded(t, "no program", api.Prog{}, 1, -1)
	for _, e := range []api.Expr{op(api.Not, f), cond(f, num(1), num(1)), let(11, f, num(1)), let(11, num(1), f), rec(recP, num(1), f), field(recP, 0, f), one(caseE, 0, f), match(11, caseE, f, num(1), num(1)), list(whole, num(1), f), call(funF, f, num(1)), fold(12, f, f, f)} {
		bounded(t, "a fold in a kid", with(def(8, api.KFun, whole, e)), 8, -1)
		bounded(t, "a call of a fold in a kid", with(def(8, api.KFun, whole, call(9)), def(9, api.KFun, whole, e)), 8, -1)
	}
	// A body that does not count has no folds.
	bounded(t, "a definition beside a record with a body", prog(def(1, api.KRec, whole, f), def(2, api.KFun, whole, rec(1))), 2, 1)
	bounded(t, "a definition of no kind", prog(def(1, 6, whole, num(1)), def(2, -1, whole, num(1))), 1, -1)
	bounded(t, "a definition of a negative kind", prog(def(1, 6, whole, num(1)), def(2, -1, whole, num(1))), 2, -1)
}

// doubling returns definitions from 1 to n, of which each one calls the one before it twice: their bounds are 1, 5, 13, 29, and so on, 2^(n+1) - 3.
func doubling(n int) []api.Def {
	l := []api.Def{def(1, api.KFun, whole, num(1))}
	for i := 2; i <= n; i++ {
		l = append(l, def(i, api.KFun, whole, op(api.Add, call(i-1), call(i-1))))
	}
	return l
}

// TestMaxInt has bounds around MaxInt, and those of definitions that call one another many times.
func TestMaxInt(t *testing.T) {
	const n = 39 // its bound is MaxInt - 3
	p := prog(doubling(100)...)
	for i := 1; i < n; i++ {
		bounded(t, "a definition that doubles a bound", p, i, 1<<(i+1)-3)
	}
	bounded(t, "a bound just below MaxInt", p, n, api.MaxInt-3)
	for i := n + 1; i <= 100; i++ {
		bounded(t, "a bound above MaxInt", p, i, api.MaxInt)
	}
	long := op(api.Add, call(n), call(n)) // 2 * MaxInt - 3
	for _, x := range []struct {
		what string
		e    api.Expr
		want int
	}{
		{"a call of a bound below MaxInt", call(n), api.MaxInt - 2},
		{"one step more", op(api.Not, call(n)), api.MaxInt - 1},
		{"a bound of MaxInt", op(api.Add, call(n), num(1)), api.MaxInt},
		{"a bound of MaxInt in another order", op(api.Add, num(1), call(n)), api.MaxInt},
		{"one step above MaxInt", list(whole, call(n), num(1), num(1)), api.MaxInt},
		{"two steps above MaxInt", list(whole, call(n), steps(3)), api.MaxInt},
		{"twice MaxInt", long, api.MaxInt},
		{"many times MaxInt", list(whole, slices.Repeat([]api.Expr{long}, 100)...), api.MaxInt},
		{"a branch of more than MaxInt", cond(is(1), num(1), long), api.MaxInt},
		{"branches of more than MaxInt", cond(long, long, long), api.MaxInt},
		{"a branch of MaxInt - 2", cond(is(1), call(n), num(1)), api.MaxInt},
		{"a branch of MaxInt - 2 behind no condition", cond(call(n), num(1), num(1)), api.MaxInt},
		{"a match of more than MaxInt", match(10, 0, num(1), num(1), long), api.MaxInt},
		{"a call with a kid of more than MaxInt", call(1, long), api.MaxInt},
		{"a call of MaxInt with a kid", call(n+1, num(1)), api.MaxInt},
		{"a fold beside more than MaxInt", op(api.Add, long, fold(10, nums(), num(1), num(1))), -1},
		{"a fold in front of more than MaxInt", op(api.Add, fold(10, nums(), num(1), num(1)), long), -1},
		{"a call of nothing beside more than MaxInt", op(api.Add, long, call(999)), -1},
	} {
		bounded(t, x.what, prog(append(p.Defs, def(101, api.KFun, whole, x.e))...), 101, x.want)
	}
	// All of a chain are called directly, too.
	all := list(whole)
	for i := range 100 {
		all.Kids = append(all.Kids, call(1+i), call(100-i))
	}
	bounded(t, "a call of all", prog(append(p.Defs, def(101, api.KFun, whole, all))...), 101, api.MaxInt)
	p.Defs[0].Body = fold(10, nums(), num(1), num(1))
	bounded(t, "many calls of a fold", p, 100, -1)
	slices.Reverse(p.Defs)
	bounded(t, "many calls of a fold, in another order", p, 100, -1)
}

// TestReached has calls that take just as many steps as the bound says, and such that do not (P11.7).
func TestReached(t *testing.T) {
	p := prog(doubling(12)...)
	for n := 1; n <= 12; n++ {
		gives(t, "a definition that doubles a bound", calls(p, n), number(1<<(n-1)), eval.Most(p, id(n)))
	}
	q := prog(def(1, api.KFun, listOf(whole), cond(v(101), steps(5), steps(10)), truth))
	for is, want := range map[bool]int{true: 7, false: 12} {
		if _, n, code := eval.Call(q, id(1), []api.Value{boolean(is)}, plenty); n != want || code != api.OK || eval.Most(q, id(1)) != 12 {
			t.Errorf("P11.7: a call has %d steps (error %d), at most %d", n, code, eval.Most(q, id(1)))
		}
	}
}
