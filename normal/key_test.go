package normal_test

import (
	"math"
	"slices"
	"strconv"
	"testing"

	"splicery/api"
)

// ordered checks that expressions have keys in this order: where two of them are the operands of an operation whose operands can be exchanged, the lesser one becomes the first one. They are not literals, and have normal forms.
func ordered(t *testing.T, what string, l ...api.Expr) {
	t.Helper()
	for i, a := range l {
		for k, b := range l {
			want := a
			if k < i {
				want = b
			}
			for _, n := range []int{api.Add, api.Mul, api.Same, api.And, api.Or} {
				becomes(t, what+", the operation "+strconv.Itoa(n), op(n, a, b), op(n, want, l[i+k-slices.IndexFunc(l, func(x api.Expr) bool { return alike(x, want) })]))
			}
			for _, n := range []int{api.Sub, api.Div, api.Rem, api.Less, api.Join} {
				checkAll(t, stays(what+", the operation "+strconv.Itoa(n), op(n, a, b)))
			}
			if i != k {
				checkAll(t, stays(what, cond(call(f), a, b)))
			}
		}
	}
}

// ref returns an ID, and a variable of it.
func ref(shop, seq, index int) api.Expr {
	return api.Expr{Kind: api.NVar, Ref: api.ID{Shop: shop, Seq: seq, Index: index}}
}

// with returns an expression with other content.
func with(e api.Expr, change func(e *api.Expr)) api.Expr {
	change(&e)
	return e
}

// TestKinds has nodes of all kinds.
func TestKinds(t *testing.T) {
	ordered(t, "kinds", v(1), call(f), op(api.Sub, v(1), v(1)), cond(v(1), v(1), v(2)), let(10, call(f), call(f, v(10))), rec(point), field(point, 0, v(1)), one(shape, 0, v(1)), match(10, shape, v(1), v(1)), list(whole), fold(10, v(1), v(1), v(1)))
	for _, n := range []int{api.Add, api.Mul, api.Same} { // a literal is less than all others
		checkAll(t, stays("a number ahead of a variable", op(n, num(math.MaxInt), v(1))))
	}
	checkAll(t, stays("a truth value ahead of a variable", op(api.Same, is(1), v(1))), step{"a variable ahead of a number", add(v(1), num(7)), add(num(7), v(1))}, step{"a variable ahead of a truth value", op(api.Same, v(1), is(0)), op(api.Same, is(0), v(1))})
}

// TestNumbers has nodes that differ in N.
func TestNumbers(t *testing.T) {
	of := func(n int) api.Expr { return op(api.Sub, v(1), num(n)) }
	ordered(t, "numbers", of(math.MinInt), of(-api.MaxInt), of(-257), of(-1), of(1), of(2), of(255), of(256), of(api.MaxInt), of(math.MaxInt))
	ordered(t, "truth values", call(f, is(0)), call(f, is(1)))
	ordered(t, "numbers ahead of truth values", call(f, num(5)), call(f, is(0)))
	ordered(t, "operations", op(api.Sub, v(1), v(1)), op(api.Div, v(1), v(1)), op(api.Rem, v(1), v(1)), op(api.Less, v(1), v(1)), op(api.Same, v(1), v(1)), not(v(1)), op(api.Join, v(1), v(1)), size(v(1)))
	ordered(t, "fields", field(point, 0, v(1)), field(point, 1, v(1)), field(point, 5, v(1)))
	ordered(t, "cases", one(shape, 0, v(1)), one(shape, 1, v(1)), one(shape, 5, v(1)))
	ordered(t, "names", nth(2, 0), nth(1, 1), nth(12, 2)) // they are ahead of Ref
	ordered(t, "names that are bound", fold(10, v(1), v(1), nth(10, 0)), fold(10, v(1), v(1), nth(10, 1)))
	ordered(t, "names, of which one is not bound", fold(10, v(1), v(1), nth(10, 1)), fold(10, v(1), v(1), nth(10, 2)))
	ordered(t, "names of matches", match(10, shape, v(1), v(1), nth(10, 1)), match(10, shape, v(1), nth(10, 1), v(1)))
	any := func(e api.Expr, n int) api.Expr { e.N = n; return e }
	for _, e := range []api.Expr{call(f), cond(v(1), v(1), v(2)), let(10, call(f), call(f, v(10))), rec(point), match(10, shape, v(1), v(1)), list(whole), fold(10, v(1), v(1), v(1))} {
		ordered(t, "numbers that mean nothing", any(e, -1), any(e, 0), any(e, 1), any(e, 300))
	}
}

// TestRefs has nodes that differ in Ref.
func TestRefs(t *testing.T) {
	ids := []api.ID{{Shop: math.MinInt}, {Shop: -1, Seq: 9, Index: 9}, {}, {Index: 1}, {Index: 256}, {Seq: 1, Index: -5}, {Seq: 1}, {Seq: 2}, {Shop: 1, Seq: -300, Index: 7}, {Shop: 1, Seq: -1}, {Shop: 1}, {Shop: 1, Seq: 1}, {Shop: 2}, {Shop: math.MaxInt}}
	for what, e := range map[string]api.Expr{"variables": v(1), "calls": call(f, v(1)), "records": rec(point, v(1)), "fields": field(point, 0, v(1)), "cases": one(shape, 0, v(1)), "matches": match(10, shape, v(1), v(1))} {
		var l []api.Expr
		for _, id := range ids {
			l = append(l, with(e, func(e *api.Expr) { e.Ref = id }))
		}
		ordered(t, what, l...)
	}
	for what, e := range map[string]api.Expr{"a number": call(f, num(1)), "an operation": not(v(1)), "a condition": cond(v(1), v(1), v(2)), "a let": let(10, call(f), call(f, v(10))), "a list": list(whole), "a fold": fold(10, v(1), v(1), v(1))} {
		other := with(e, func(e *api.Expr) { e.Ref, e.Type = id(5), truth })
		if e.Kind == api.NCall {
			other = with(e, func(e *api.Expr) {
				e.Kids = []api.Expr{with(num(1), func(e *api.Expr) { e.Ref, e.Type = id(5), truth })}
			})
		}
		if e.Kind == api.NList {
			other.Type = whole
		}
		becomes(t, what+" has no Ref in its key", cond(v(2), e, other), e)
		checkAll(t, stays(what+" has no Ref in its key", add(other, e)), stays(what+" has no Ref in its key", add(e, other)))
	}
}

// TestTypes has lists of other types.
func TestTypes(t *testing.T) {
	var l []api.Expr
	for _, x := range []api.Type{whole, {Kids: []api.Type{whole}}, truth, listOf(whole), listOf(truth), listOf(listOf(truth)), listOf(of(12)), {Kind: api.TList, Kids: []api.Type{whole, whole}}, of(12), {Kind: api.TDef, Def: id(12), Kids: []api.Type{whole}}, of(1), of(13), of(2), {Kind: 4, Def: id(5)}} {
		l = append(l, list(x, v(1)))
	}
	ordered(t, "types", l...)
	ordered(t, "types ahead of kids", list(whole, v(1), v(1)), list(truth, v(1)))
	same := list(whole)
	same.Type.Def = id(7) // only types of definitions have one
	becomes(t, "a type that names nothing", cond(v(1), list(whole), same), list(whole))
	named := call(f)
	named.Type = truth
	becomes(t, "a type of another kind of node", cond(v(1), call(f), named), call(f))
}

// TestKids has nodes with other kids.
func TestKids(t *testing.T) {
	ordered(t, "numbers of kids", list(whole), list(whole, v(2)), list(whole, v(1), v(1)), list(whole, num(1), num(1), num(1)))
	ordered(t, "kids", call(f, num(1), v(2)), call(f, v(12), v(2)), call(f, v(1), v(12)), call(f, v(1), v(1)), call(f, v(1), v(2)), call(f, v(1), call(f)), call(f, v(2), v(1)))
	ordered(t, "kids of kids", call(f, call(f, v(12), v(1)), v(12)), call(f, call(f, v(12), v(2)), v(12)), call(f, call(f, v(1), v(12)), v(12)))
	ordered(t, "Ref ahead of the number of kids", with(call(f, v(1), v(1)), func(e *api.Expr) { e.Ref = id(12) }), with(call(f), func(e *api.Expr) { e.Ref = id(2) }))
}

// TestBound has variables that are bound by a node of the expression, and others.
func TestBound(t *testing.T) {
	in := func(e api.Expr) api.Expr { return let(10, call(f), call(f, v(10), e)) }
	two := func(e api.Expr) api.Expr { return let(10, call(f), let(12, call(f, v(10)), call(f, v(10), v(12), e))) }
	ordered(t, "variables that are bound and others", in(v(12)), in(v(1)), in(v(2)), in(v(10)))
	ordered(t, "variables of several nodes", two(v(2)), two(v(12)), two(v(10)))
	for _, x := range []struct {
		what         string
		between      func(e api.Expr) api.Expr
		inner, outer api.Expr
	}{
		{"a let", func(e api.Expr) api.Expr { return in(let(12, call(f), call(f, v(12), e))) }, v(12), v(10)},
		{"a fold", func(e api.Expr) api.Expr { return in(fold(12, v(1), v(1), call(f, e))) }, v(12), v(10)},
		{"a match", func(e api.Expr) api.Expr {
			return match(10, shape, v(1), v(1), v(1), match(12, shape, v(1), v(1), v(1), call(f, e)))
		}, nth(12, 2), nth(10, 2)},
		{"a let and nodes that bind nothing", func(e api.Expr) api.Expr { return in(let(12, call(f), call(f, v(12), cond(v(1), e, call(f))))) }, v(12), v(10)},
		{"two folds", func(e api.Expr) api.Expr { return in(fold(12, v(1), v(1), fold(13, v(1), v(1), call(f, e)))) }, v(12), v(10)},
	} {
		ordered(t, "between there is "+x.what, x.between(nth(2, x.inner.N)), x.between(x.inner), x.between(x.outer))
	}
	// Which of two variables is the first operand depends on their IDs; what binds them has no ID in the key of the whole.
	a, b := let(10, call(f), let(12, call(f), add(v(12), v(10)))), let(1, call(f), let(13, call(f), add(v(1), v(13))))
	checkAll(t, stays("two sums", cond(v(2), a, b)), step{"equal sums", cond(v(2), a, let(11, call(f), let(15, call(f), add(v(15), v(11))))), a}, step{"sums that become equal", cond(v(2), a, let(11, call(f), let(15, call(f), add(v(11), v(15))))), a})
	// The operands of a sum are expressions of their own: what binds a variable further out has its ID in their keys.
	checkAll(t,
		step{"operands with variables of nodes around", let(10, call(f), add(v(10), v(1))), let(10, call(f), add(v(1), v(10)))},
		stays("operands with variables of nodes around", let(12, call(f), add(v(12), v(1)))),
	)
}

// TestKeysOfFree checks that a variable that a node of an operand binds is behind one that something else binds, whatever the IDs.
func TestKeysOfFree(t *testing.T) {
	for _, n := range []int{1, 2, 10, 12, 13} {
		bound, free := let(14, call(f), call(f, v(14), v(14))), let(14, call(f), call(f, v(14), v(n)))
		for _, e := range []api.Expr{add(bound, free), add(free, bound)} {
			becomes(t, "an operand", e, add(free, bound))
			becomes(t, "an operand below a node that binds the other variable", let(n, call(f), e), let(n, call(f), add(free, bound)))
		}
	}
}

// TestEqualKeys has operands with equal keys, which stay in their order. What they bind with has other IDs.
func TestEqualKeys(t *testing.T) {
	a, b := let(10, call(f), call(f, v(10))), let(12, call(f), call(f, v(12)))
	for _, n := range []int{api.Add, api.Mul, api.Same, api.And, api.Or} {
		checkAll(t, stays("equal keys", op(n, a, b)), stays("equal keys", op(n, b, a)), stays("the same", op(n, a, a)))
	}
	checkAll(t, step{"the first one of equal branches", cond(v(1), a, b), a}, step{"the first one of equal branches", cond(v(1), b, a), b})
	// They have been exchanged when a variable still made them different.
	c := func(n, x int, e api.Expr) api.Expr { return let(n, call(f), call(f, v(n), e)) }
	checkAll(t, step{"keys that become equal", let(13, v(2), add(c(10, 10, v(2)), c(12, 12, v(13)))), add(c(12, 12, v(2)), c(10, 10, v(2)))})
	// Equal branches, of which the second one is gone before a variable makes them different: the ID 34 is between 10 and 2.
	x, y := let(10, call(f), add(v(12), v(10))), let(2, call(f), add(v(12), v(2)))
	checkAll(t, step{"branches that are equal before", let(12, v(34), cond(v(1), x, y)), let(10, call(f), add(v(10), v(34)))}, stays("branches that differ", cond(v(1), let(10, call(f), add(v(10), v(34))), let(2, call(f), add(v(34), v(2))))))
}
