package normal_test

import (
	"testing"

	"splicery/api"
	"splicery/normal"
)

// compared checks whether two expressions of two programs are the same, in both orders.
func compared(t *testing.T, what string, p api.Prog, a api.Expr, q api.Prog, b api.Expr, want bool) {
	t.Helper()
	if normal.Same(p, a, q, b) != want || normal.Same(q, b, p, a) != want {
		t.Errorf("P14.2: %s: %s and %s are the same: %v", what, show(a), show(b), !want)
	}
	if !normal.Same(p, a, p, a) || !normal.Same(q, b, q, b) {
		t.Errorf("P14.2: %s: %s or %s is not the same as itself", what, show(a), show(b))
	}
}

// TestSameExpressions compares expressions of one program.
func TestSameExpressions(t *testing.T) {
	p := prog(data(point, api.KRec, whole, whole), data(shape, api.KCase, whole, truth), def(f, api.KFun, whole, op(api.Sub, v(2301), v(2302)), whole, whole), data(26, api.KRec, whole, whole), data(27, api.KCase, whole, whole), def(28, api.KFun, whole, op(api.Sub, v(2801), v(2802)), whole, whole), def(29, api.KFun, whole, v(2901), whole, whole))
	sound(t, p)
	c := call(f, num(1), v(1))
	for _, x := range []struct {
		what string
		a, b api.Expr
		want bool
	}{
		{"numbers", num(1), num(1), true}, {"other numbers", num(1), num(2), false}, {"a number and a truth value", num(1), is(1), false},
		{"slots", v(1), v(1), true}, {"other slots", v(1), v(2), false}, {"names of a node", nth(10, 0), nth(10, 1), false},
		{"an operation that is possible", add(num(1), num(2)), num(3), true}, {"the other order", add(v(1), num(2)), add(num(2), v(1)), true}, {"the other order of what has one", op(api.Sub, v(1), num(2)), op(api.Sub, num(2), v(1)), false},
		{"nodes that bind", let(10, c, call(f, v(10), v(10))), let(12, c, call(f, v(12), v(12))), true}, {"variables of other nodes", let(10, c, let(12, c, call(f, v(10), v(12)))), let(10, c, let(12, c, call(f, v(12), v(10)))), false},
		{"a variable that is bound and one that is not", let(10, c, call(f, v(10), v(10))), let(12, c, call(f, v(12), v(10))), false},
		{"names and numbers of operands", fold(10, v(1), num(1), call(f, nth(10, 0), nth(10, 1))), fold(12, v(1), num(1), call(f, nth(12, 0), nth(12, 1))), true}, {"other names", fold(10, v(1), num(1), call(f, nth(10, 0), nth(10, 1))), fold(10, v(1), num(1), call(f, nth(10, 1), nth(10, 0))), false},
		{"calls of definitions with the same meaning", call(f, v(1), v(2)), call(28, v(1), v(2)), true}, {"calls of other definitions", call(f, v(1), v(2)), call(29, v(1), v(2)), false}, {"other kids", call(f, v(1), v(2)), call(f, v(2), v(1)), false},
		{"records with the same meaning", rec(point, v(1), v(2)), rec(26, v(1), v(2)), true}, {"other records", rec(point, v(1), v(2)), rec(point, v(1), v(1)), false},
		{"fields with the same meaning", field(point, 1, v(1)), field(26, 1, v(1)), true}, {"other fields", field(point, 1, v(1)), field(point, 0, v(1)), false},
		{"cases with other meanings", one(shape, 0, v(1)), one(27, 0, v(1)), false}, {"matches with other meanings", match(10, shape, v(1), num(1), num(2)), match(10, 27, v(1), num(1), num(2)), false}, {"matches", match(10, shape, v(1), num(1), num(2)), match(12, shape, v(1), num(1), num(2)), true},
		{"lists with the same meaning", list(of(point)), list(of(26)), true}, {"lists of lists", list(listOf(of(point))), list(listOf(of(26))), true}, {"lists with other meanings", list(of(shape)), list(of(27)), false}, {"other lists", list(whole), list(truth), false},
		{"what is gone", cond(is(1), v(1), call(f, v(1), v(2))), v(1), true}, {"a field that is taken", field(point, 0, rec(point, v(1), v(2))), v(1), true},
		// The order of operands is that of the IDs of definitions (28 is ahead of 29, and this of f), not of their meanings.
		{"operands in the order of their IDs", add(call(f, v(1), v(1)), call(29, v(1), v(1))), add(call(28, v(1), v(1)), call(29, v(1), v(1))), false}, {"the other order of operands", add(call(f, v(1), v(1)), call(29, v(1), v(1))), add(call(29, v(1), v(1)), call(f, v(1), v(1))), true},
	} {
		compared(t, x.what, p, x.a, p, x.b, x.want)
		if sameByRule(p, x.a, p, x.b) != x.want {
			t.Errorf("P14.2: %s: by the rule, %s and %s are the same: %v", x.what, show(x.a), show(x.b), !x.want)
		}
	}
	// Names and IDs of nodes, and types of nodes other than lists, do not count.
	a, b := let(10, c, not(v(10))), let(10, c, not(v(10)))
	b.Names, b.ID, b.Type, b.Kids[1].ID, b.Kids[1].Kids[0].Ref = []string{"x"}, id(15), truth, id(77), id(15)
	compared(t, "names and IDs of nodes", p, a, p, b, true)
}

// TestSamePrograms compares expressions of two programs.
func TestSamePrograms(t *testing.T) {
	build := func(point, f, n int) api.Prog {
		return prog(data(point, api.KRec, whole), def(f, api.KFun, of(point), rec(point, num(n)), whole), def(60, api.KFun, of(point), call(f, v(6001)), whole))
	}
	p, moved, changed := build(20, 21, 1), build(30, 31, 1), build(20, 21, 2)
	for _, x := range []api.Prog{p, moved, changed} {
		sound(t, x)
	}
	e := call(60, num(5))
	compared(t, "equal programs", p, e, build(20, 21, 1), e, true)
	compared(t, "other IDs", p, e, moved, e, true)
	compared(t, "another body further down", p, e, changed, e, false)
	compared(t, "another body that does not matter", p, v(1), changed, v(1), true)
	compared(t, "records, of which only others change", p, rec(20, v(1)), changed, rec(20, v(1)), true)
	compared(t, "other IDs in the expressions", p, field(20, 0, call(21, v(1))), moved, field(30, 0, call(31, v(1))), true)
	compared(t, "the same ID, which is that of something else", p, call(20, v(1)), build(40, 20, 1), call(20, v(1)), false)
	renamed := build(20, 21, 1)
	for i := range renamed.Defs {
		renamed.Defs[i].Name, renamed.Defs[i].Mod, renamed.Defs[i].Place, renamed.Defs[i].Layout = "x", id(3), 7, []string{"", "#"}
	}
	compared(t, "other names", p, e, renamed, e, true)
	// If there is no meaning, nothing is specified but that there is a result.
	for _, q := range []api.Prog{{}, prog(def(60, api.KFun, whole, call(60, v(6001)), whole)), prog(data(60, api.KRec, of(77)))} {
		compared(t, "a definition without a meaning", p, e, q, e, false)
		if !normal.Same(q, v(1), p, v(1)) {
			t.Error("P14.2: a program without meanings does not have the same variables")
		}
	}
}
