package normal_test

import (
	"strconv"
	"testing"

	"splicery/api"
	"splicery/normal"
)

// Numbers of IDs: 1 and 2 are slots, 10 and more nodes that bind, 20 and more definitions. In the order of the IDs, 12 is the first one, and 1, 13, 10 and 2 follow.
const (
	point = 21 // a record
	shape = 22 // a variant
	f     = 23 // a function
)

// step is an expression, and its normal form.
type step struct {
	what    string
	e, want api.Expr
}

func checkAll(t *testing.T, l ...step) {
	t.Helper()
	for _, x := range l {
		becomes(t, x.what, x.e, x.want)
	}
}

// stays returns a step that is none: the expression is normal.
func stays(what string, e api.Expr) step { return step{what, e, e} }

// TestPlain has nodes for which no step is possible.
func TestPlain(t *testing.T) {
	checkAll(t,
		stays("a number", num(-7)), stays("the greatest number", num(api.MaxInt)), stays("a truth value", is(1)), stays("a variable", v(1)), stays("a variable of a node outside", nth(12, 5)),
		stays("a call", call(f, v(1), num(2))), stays("a call without kids", call(f)), stays("a record", rec(point, num(1), v(2))), stays("a case", one(shape, 1, v(1))),
		stays("a list", list(of(point), v(1), v(1))), stays("a list without kids", list(listOf(truth))), stays("a fold", fold(10, v(1), num(0), add(nth(10, 0), nth(10, 1)))),
		stays("a match of a variable", match(10, shape, v(1), nth(10, 0), nth(10, 1))), stays("a field of a variable", field(point, 1, v(1))), stays("a condition", cond(v(1), num(1), num(2))),
		stays("a let of a call", let(10, call(f, v(1)), v(10))), stays("Len", size(list(whole, num(1)))), stays("Join", op(api.Join, list(whole, num(1)), list(whole))), stays("Not of a variable", not(v(1))),
	)
}

// TestLiterals has operations of literals, at the bounds, too.
func TestLiterals(t *testing.T) {
	const most = api.MaxInt
	for _, x := range []struct{ op, a, b, want int }{
		{api.Add, 2, 3, 5}, {api.Add, most, 1, most}, {api.Add, -most, -1, -most}, {api.Add, 0, 0, 0}, {api.Sub, 2, 3, -1}, {api.Sub, -most, 1, -most}, {api.Mul, 2, -3, -6}, {api.Mul, most, -most, -most}, {api.Mul, 1, 1, 1},
		{api.Div, -7, 2, -4}, {api.Div, 7, 0, 0}, {api.Rem, -7, 2, 1}, {api.Rem, 7, 0, 0},
	} {
		becomes(t, "the operation "+strconv.Itoa(x.op), op(x.op, num(x.a), num(x.b)), num(x.want))
	}
	for _, x := range []struct{ op, a, b, want int }{{api.Less, 1, 2, 1}, {api.Less, 2, 2, 0}, {api.Less, 2, 1, 0}, {api.Same, 2, 2, 1}, {api.Same, 2, 1, 0}} {
		becomes(t, "the operation "+strconv.Itoa(x.op), op(x.op, num(x.a), num(x.b)), is(x.want))
	}
	for a := range 2 {
		for b := range 2 {
			same := 0
			if a == b {
				same = 1
			}
			checkAll(t, step{"Same", op(api.Same, is(a), is(b)), is(same)}, step{"And", op(api.And, is(a), is(b)), is(min(a, b))}, step{"Or", op(api.Or, is(a), is(b)), is(max(a, b))})
		}
		becomes(t, "Not", not(is(a)), is(1-a))
	}
	checkAll(t,
		step{"operations of operations", op(api.Less, op(api.Mul, num(2), num(3)), op(api.Sub, num(9), add(num(1), num(1)))), is(1)},
		stays("Same of lists", op(api.Same, list(whole, num(1)), list(whole, num(1)))),
		stays("Same of records", op(api.Same, rec(point, num(1), num(2)), rec(point, num(1), num(2)))),
		stays("Sub of a literal and a variable", op(api.Sub, num(2), v(1))),
		stays("Less of a literal and a variable", op(api.Less, num(2), v(1))),
	)
}

// TestTruth has And, Or and Not.
func TestTruth(t *testing.T) {
	x, y := v(1), op(api.Less, v(1), num(2))
	for _, kid := range []api.Expr{x, y, call(f), not(x)} {
		checkAll(t,
			step{"And with true", op(api.And, is(1), kid), kid}, step{"And with true behind", op(api.And, kid, is(1)), kid},
			step{"And with false", op(api.And, is(0), kid), is(0)}, step{"And with false behind", op(api.And, kid, is(0)), is(0)},
			step{"Or with true", op(api.Or, is(1), kid), is(1)}, step{"Or with true behind", op(api.Or, kid, is(1)), is(1)},
			step{"Or with false", op(api.Or, is(0), kid), kid}, step{"Or with false behind", op(api.Or, kid, is(0)), kid},
		)
	}
	checkAll(t,
		step{"not not", not(not(x)), x}, step{"three nots", not(not(not(x))), not(x)}, step{"four nots", not(not(not(not(y)))), y},
		step{"not of what becomes not", not(op(api.And, is(1), not(x))), x}, step{"not not of a literal", not(not(is(1))), is(1)},
		stays("not of And", not(op(api.And, x, y))), stays("And of equal kids", op(api.And, x, x)),
		step{"And that is decided within", op(api.And, op(api.Or, y, is(1)), x), x},
		stays("Same with true", op(api.Same, is(1), x)),
	)
}

// TestNeutral has numbers that change nothing.
func TestNeutral(t *testing.T) {
	for _, x := range []api.Expr{v(1), call(f), add(num(3), v(1)), op(api.Sub, v(1), v(2))} {
		checkAll(t,
			step{"0 + x", add(num(0), x), x}, step{"x + 0", add(x, num(0)), x}, step{"x - 0", op(api.Sub, x, num(0)), x}, step{"1 * x", op(api.Mul, num(1), x), x}, step{"x * 1", op(api.Mul, x, num(1)), x},
			step{"x + what becomes 0", add(x, op(api.Sub, num(2), num(2))), x}, step{"x * what becomes 1", op(api.Mul, x, cond(is(1), num(1), v(1))), x},
			stays("0 - x", op(api.Sub, num(0), x)), stays("x - 1", op(api.Sub, x, num(1))), stays("x - x", op(api.Sub, x, x)), stays("0 * x", op(api.Mul, num(0), x)), stays("1 + x", add(num(1), x)), stays("-1 * x", op(api.Mul, num(-1), x)),
			stays("x / 1", op(api.Div, x, num(1))), stays("x / 0", op(api.Div, x, num(0))), stays("x % 1", op(api.Rem, x, num(1))), stays("x < 0", op(api.Less, x, num(0))), stays("0 == x", op(api.Same, num(0), x)), stays("1 == x", op(api.Same, num(1), x)),
			step{"x * 0", op(api.Mul, x, num(0)), op(api.Mul, num(0), x)}, step{"x + 1", add(x, num(1)), add(num(1), x)},
			stays("numbers further down", add(num(2), add(num(3), x))),
		)
	}
	checkAll(t, stays("the example of package equiv", op(api.Sub, add(num(1), v(1)), num(1))))
}

// TestIf has conditions.
func TestIf(t *testing.T) {
	checkAll(t,
		step{"if true", cond(is(1), v(1), call(f)), v(1)}, step{"if false", cond(is(0), v(1), call(f)), call(f)}, step{"if what becomes true", cond(op(api.Less, num(1), num(2)), v(1), v(2)), v(1)},
		step{"the same variable", cond(v(2), v(1), v(1)), v(1)}, step{"what becomes the same", cond(v(2), add(v(1), num(0)), v(1)), v(1)}, step{"exchanged", cond(v(2), add(v(1), num(7)), add(num(7), v(1))), add(num(7), v(1))},
		step{"other nodes that bind", cond(v(2), let(10, call(f), add(num(1), v(10))), letb(12, call(f), add(v(12), num(1)))), let(10, call(f), add(num(1), v(10)))},
		stays("other numbers", cond(v(2), num(1), num(2))), stays("other variables", cond(v(2), v(1), v(2))), stays("other calls", cond(v(2), call(f), call(f+1))),
		stays("branches that bind, and do not", cond(v(2), let(10, call(f), v(10)), call(f))),
		stays("variables of nodes outside", let(10, call(f), let(12, call(f), cond(v(2), add(v(12), v(2)), add(v(10), v(2)))))),
		step{"a condition in a condition", cond(cond(v(1), is(1), is(1)), num(3), v(2)), num(3)},
		step{"conditions of conditions", cond(v(1), cond(v(2), num(1), num(1)), cond(is(0), num(2), num(1))), num(1)},
		stays("literals as branches", cond(v(1), is(1), is(0))),
	)
}

// TestLet has lets.
func TestLet(t *testing.T) {
	twice := func(n int) api.Expr { return op(api.Sub, v(n), v(n)) }
	checkAll(t,
		step{"a number", let(10, num(5), op(api.Sub, v(1), v(10))), op(api.Sub, v(1), num(5))}, step{"a truth value", let(10, is(1), list(truth, v(10), v(10))), list(truth, is(1), is(1))}, step{"a slot", let(10, v(1), twice(10)), twice(1)},
		step{"a variable of a node outside", let(10, call(f), let(12, v(10), twice(12))), let(10, call(f), twice(10))}, step{"the second name of a fold", fold(10, v(1), v(2), let(12, nth(10, 1), op(api.Sub, v(12), nth(10, 0)))), fold(10, v(1), v(2), op(api.Sub, nth(10, 1), nth(10, 0)))},
		step{"what becomes a number", let(10, add(num(2), num(3)), call(f, v(10))), call(f, num(5))}, step{"what becomes a variable", let(10, add(v(1), num(0)), call(f, v(10))), call(f, v(1))},
		step{"without a variable", let(10, call(f), v(1)), v(1)}, step{"a literal without a variable", let(10, num(1), v(1)), v(1)}, step{"without a variable in the end", let(10, call(f), cond(is(1), v(1), v(10))), v(1)},
		step{"a variable in what a let does not need", let(10, call(f), let(12, call(f, v(10)), num(3))), num(3)}, step{"a variable in what decides nothing", let(10, call(f), op(api.And, op(api.Less, v(10), num(1)), is(0))), is(0)},
		step{"a variable in another field", let(10, call(f), field(point, 0, rec(point, v(1), v(10)))), v(1)}, step{"a variable in another branch", let(10, call(f), match(12, shape, one(shape, 0, call(f)), nth(12, 0), v(10))), let(12, call(f), v(12))},
		step{"a variable in one of the same branches", let(10, call(f), cond(op(api.Less, v(10), num(1)), v(1), v(1))), v(1)},
		stays("a call", let(10, call(f), num10(10))), stays("a list", let(10, list(whole), v(10))), stays("a record", let(10, rec(point, num(1), num(2)), v(10))), stays("an operation", let(10, add(num(1), v(1)), call(f, v(10)))),
		step{"a let in a let", let(10, let(12, num(4), add(v(12), num(1))), call(f, v(10), v(10))), call(f, num(5), num(5))}, stays("a let of a call in a let", let(10, let(12, call(f), add(num(1), v(12))), call(f, v(10)))),
		step{"lets of one another", let(10, num(1), let(12, add(v(10), num(1)), let(13, add(v(12), num(1)), call(f, v(13))))), call(f, num(3))}, step{"lets of the same", let(10, v(1), let(12, v(10), let(13, v(12), op(api.Sub, v(13), v(10))))), twice(1)},
		step{"what is possible then", let(10, is(1), cond(v(10), v(1), v(2))), v(1)}, step{"what is possible then further up", let(10, num(0), let(12, add(v(10), v(1)), op(api.Sub, v(12), add(v(10), num(1))))), op(api.Sub, v(1), num(1))},
		step{"two lets, one behind the other", let(10, num(5), let(12, is(1), call(f, let(60, cond(v(12), num(3), call(f)), cond(op(api.Less, v(60), num(9)), v(1), call(f, v(2)))), v(10)))), call(f, v(1), num(5))},
		step{"a record that a let holds", let(10, num(1), field(point, 0, let(12, v(10), rec(point, v(12), v(1))))), num(1)}, stays("a field of a let", field(point, 0, let(12, call(f), rec(point, v(12), v(12))))),
		step{"folds", let(10, num(2), fold(12, v(1), v(10), add(nth(12, 1), v(10)))), fold(12, v(1), num(2), add(num(2), nth(12, 1)))},
		stays("a fold without variables", fold(12, v(1), v(2), num(1))), stays("a match without variables", match(12, shape, v(1), num(1), num(1))),
	)
}

// num10 returns an expression with a variable of the node n.
func num10(n int) api.Expr { return add(num(10), v(n)) }

// TestField has fields of records.
func TestField(t *testing.T) {
	three := rec(point, num(1), v(1), call(f))
	checkAll(t,
		step{"the field 0", field(point, 0, three), num(1)}, step{"the field 1", field(point, 1, three), v(1)}, step{"the field 2", field(point, 2, three), call(f)},
		step{"a field of a field", field(point, 1, field(point, 0, rec(point, rec(point, num(1), v(2)), v(1)))), v(2)}, step{"a field of what becomes a record", field(point, 0, cond(is(0), v(1), three)), num(1)},
		step{"a field that becomes something else", field(point, 0, rec(point, add(num(1), num(2)))), num(3)},
		stays("a field of a condition", field(point, 0, cond(v(1), three, v(2)))), stays("a field of a call", field(point, 1, call(f))), stays("a record of fields", rec(point, field(point, 0, v(1)), field(point, 1, v(1)))),
	)
}

// TestMatch has matches of cases. A node let of a call that takes the place of a match has its ID and the name of the branch.
func TestMatch(t *testing.T) {
	of := func(n int, held api.Expr) api.Expr {
		return match(10, shape, one(shape, n, held), add(num(1), nth(10, 0)), op(api.Sub, nth(10, 1), num(2)), v(2))
	}
	checkAll(t,
		step{"a number, the first case", of(0, num(4)), num(5)}, step{"a number, the second case", of(1, num(4)), num(2)}, step{"a variable", of(1, v(1)), op(api.Sub, v(1), num(2))}, step{"a branch without variables", of(2, call(f)), v(2)}, step{"a number, a branch without variables", of(2, num(1)), v(2)},
		step{"a call, the first case", of(0, call(f)), let(10, call(f), add(num(1), v(10)))}, step{"a call, the second case", of(1, call(f)), letb(10, call(f), op(api.Sub, v(10), num(2)))},
		step{"what becomes a case", match(10, shape, cond(is(1), one(shape, 0, num(4)), v(1)), nth(10, 0), num(1)), num(4)}, step{"a held expression that becomes a number", of(0, add(num(1), num(3))), num(5)},
		step{"a match of a match", match(10, shape, match(12, shape, one(shape, 1, v(1)), v(2), one(shape, 0, nth(12, 1))), nth(10, 0), num(7)), v(1)},
		step{"a match in a branch", match(10, shape, one(shape, 1, call(f)), num(7), match(12, shape, one(shape, 0, nth(10, 1)), op(api.Sub, nth(12, 0), nth(10, 1)), num(6))), letb(10, call(f), op(api.Sub, v(10), v(10)))},
		step{"other numbers of names have other keys", fold(12, v(1), v(2), match(10, shape, one(shape, 1, call(f)), num(1), add(nth(10, 1), nth(12, 0)))), fold(12, v(1), v(2), letb(10, call(f), inOrder(v(10), nth(12, 0))))},
		stays("a match of a call", match(10, shape, call(f), nth(10, 0), nth(10, 1))), stays("a match of a condition", match(10, shape, cond(v(1), one(shape, 0, v(2)), one(shape, 1, v(2))), nth(10, 0), nth(10, 1))),
		stays("a match with equal branches", match(10, shape, v(1), num(1), num(1))),
	)
}

// inOrder returns the sum of two variables, the one with the lesser key first.
func inOrder(a, b api.Expr) api.Expr {
	if a.N > b.N || a.N == b.N && order(a.Ref, b.Ref) > 0 {
		a, b = b, a
	}
	return add(a, b)
}

// TestProgram checks that the program does not matter to normal forms.
func TestProgram(t *testing.T) {
	e := let(10, num(2), add(op(api.Mul, v(1), num(1)), field(point, 0, rec(point, v(10)))))
	for _, p := range []api.Prog{{}, prog(data(point, api.KRec, whole)), prog(data(point, api.KCase)), {Mods: []api.Mod{{}}}} {
		if got := normal.Expr(p, e); !alike(got, add(num(2), v(1))) {
			t.Errorf("P14.1: in %+v, %s becomes %s", p, show(e), show(got))
		}
	}
}
