package normal_test

import (
	"slices"
	"testing"

	"splicery/api"
	"splicery/normal"
)

// TestHidden has nodes that bind with the ID of one around them: a variable belongs to the innermost one that binds it where it is.
func TestHidden(t *testing.T) {
	g := func(kids ...api.Expr) api.Expr { return call(f, kids...) }
	checkAll(t,
		stays("a let in a let", let(10, g(), let(10, g(v(10)), g(v(10))))),
		step{"a number in a let", let(10, num(1), let(10, add(v(10), num(1)), g(v(10)))), g(num(2))},
		step{"a number within", let(10, g(), let(10, num(3), g(v(10)))), g(num(3))},
		step{"a number around", let(10, num(3), let(10, g(), g(v(10)))), let(10, g(), g(v(10)))},
		step{"a number around and within", let(10, num(3), g(v(10), let(10, num(4), g(v(10))), v(10))), g(num(3), g(num(4)), num(3))},
		step{"a variable around", let(10, v(1), let(10, g(v(10)), g(v(10)))), let(10, g(v(1)), g(v(10)))},
		stays("a let in a fold", fold(10, v(1), v(2), let(10, g(), g(nth(10, 0), nth(10, 1))))),
		step{"a number in a fold", fold(10, v(1), v(2), let(10, num(3), g(nth(10, 0), nth(10, 1)))), fold(10, v(1), v(2), g(num(3), nth(10, 1)))},
		step{"a fold in a number", let(10, num(3), fold(10, v(10), v(10), g(nth(10, 0), nth(10, 1)))), fold(10, num(3), num(3), g(nth(10, 0), nth(10, 1)))},
		step{"a match in a number", let(10, num(3), match(10, shape, v(10), nth(10, 0), g(v(10)))), match(10, shape, num(3), nth(10, 0), g(num(3)))},
		step{"a slot", let(1, num(3), g(v(1))), g(num(3))}, step{"a slot and a let", g(v(1), let(1, num(3), g(v(1))), v(1)), g(v(1), g(num(3)), v(1))},
		step{"nodes with the same ID side by side", g(let(10, num(1), v(10)), let(10, num(2), g(v(10))), let(10, g(), g(v(10)))), g(num(1), g(num(2)), let(10, g(), g(v(10))))},
		step{"a node with the ID of one that it is not in", g(v(10), let(10, v(10), g(v(10)))), g(v(10), g(v(10)))},
		step{"a let of a variable of the one around it", let(10, g(), let(10, v(10), g(v(10)))), let(10, g(), g(v(10)))},
		step{"the zero ID", let(0, g(), let(0, v(0), let(0, g(v(0)), g(v(0))))), let(0, g(), let(0, g(v(0)), g(v(0))))},
	)
	// Where a variable is taken to does not bind it.
	checkAll(t,
		step{"another name of a fold", fold(10, v(1), v(2), let(12, nth(10, 1), let(10, g(), g(v(12), v(10))))), fold(10, v(1), v(2), let(10, g(), g(nth(10, 1), v(10))))},
		step{"another branch", let(10, g(), let(12, v(10), match(10, shape, v(1), g(nth(10, 0)), g(v(12), nth(10, 1))))), let(10, g(), match(10, shape, v(1), g(nth(10, 0)), g(v(10), nth(10, 1))))},
		step{"what a let holds", let(10, g(), let(12, v(10), let(10, g(v(12)), g(v(10))))), let(10, g(), let(10, g(v(10)), g(v(10))))},
		step{"the list of a fold", let(12, v(10), fold(10, v(12), v(12), g(v(10)))), fold(10, v(10), v(10), g(v(10)))},
		step{"a let that is gone", let(10, g(), let(12, v(10), let(10, g(), cond(is(1), g(v(12)), v(10))))), let(10, g(), g(v(10)))},
		step{"beside a let", let(12, v(10), g(v(12), let(10, g(), g(v(10))))), g(v(10), let(10, g(), g(v(10))))},
		step{"the first case of a match", let(10, g(), match(10, shape, one(shape, 0, g()), let(12, v(10), let(13, g(), g(v(12), v(13)))), v(10))), let(10, g(), let(13, g(), g(v(10), v(13))))},
	)
}

// TestTaken has variables that are taken to where another node has the ID of what binds them: this node gets another ID. So the results are those that expressions with different IDs have.
func TestTaken(t *testing.T) {
	g := func(kids ...api.Expr) api.Expr { return call(f, kids...) }
	// The numbers are those of the nodes let or match around, within, and further within.
	for what, x := range map[string]func(slot, a, b, c int) api.Expr{
		"a slot in a let": func(slot, a, b, c int) api.Expr { return let(a, v(slot), let(b, g(), g(v(a), v(b)))) },
		"a slot in a fold": func(slot, a, b, c int) api.Expr {
			return let(a, v(slot), fold(b, v(a), v(a), g(v(a), nth(b, 0), nth(b, 1))))
		},
		"a slot in a match": func(slot, a, b, c int) api.Expr {
			return let(a, v(slot), match(b, shape, v(a), g(v(a), v(b)), g(v(a), nth(b, 1))))
		},
		"a slot in two lets": func(slot, a, b, c int) api.Expr { return let(a, v(slot), let(b, g(), let(c, g(v(b)), g(v(a), v(c))))) },
		"a slot in lets side by side": func(slot, a, b, c int) api.Expr {
			return let(a, v(slot), g(let(b, g(), g(v(a), v(b))), let(c, g(), g(v(a), v(c))), let(b, g(), g(v(b)))))
		},
		"a let in a let": func(slot, a, b, c int) api.Expr { return let(b, g(), let(a, v(b), let(c, g(), g(v(a), v(c))))) },
		"a let in a fold": func(slot, a, b, c int) api.Expr {
			return let(b, g(), let(a, v(b), fold(c, v(slot), v(b), g(v(a), nth(c, 0), nth(c, 1)))))
		},
		"a fold in a fold": func(slot, a, b, c int) api.Expr {
			return fold(b, v(1), v(1), let(a, nth(b, 1), fold(c, v(1), v(1), g(v(a), nth(c, 0), nth(c, 1)))))
		},
		"a match of a case in a let": func(slot, a, b, c int) api.Expr {
			return let(b, g(), match(c, shape, one(shape, 1, g(v(b))), num(1), g(v(b), nth(c, 1))))
		},
		"a match of a case with a slot": func(slot, a, b, c int) api.Expr {
			return match(b, shape, one(shape, 1, g(v(slot))), num(1), g(v(slot), nth(b, 1)))
		},
		"a let in a match of a case": func(slot, a, b, c int) api.Expr {
			return match(b, shape, one(shape, 1, g()), num(1), let(c, g(nth(b, 1)), g(v(c), nth(b, 1))))
		},
		"a match of a case, twice": func(slot, a, b, c int) api.Expr {
			return match(b, shape, one(shape, 1, g()), num(1), match(c, shape, one(shape, 0, g(nth(b, 1))), g(nth(b, 1), nth(c, 0)), num(1)))
		},
		"what is possible then": func(slot, a, b, c int) api.Expr {
			return let(a, v(slot), let(b, g(), cond(op(api.Less, v(b), v(a)), g(v(a), v(b)), g(let(c, v(a), v(c)), v(b)))))
		},
	} {
		apart := x(1, 10, 12, 13)
		want := normal.Expr(api.Prog{}, apart)
		hidden := 0
		for n := range 27 {
			some := []int{1, 10, 12}
			e := x(1, some[n%3], some[n/3%3], some[n/9])
			if !slices.Equal(plain.key(e), plain.key(apart)) { // with these IDs, a variable belongs to another node
				continue
			}
			r := rule{}
			if r.normal(e); r.hidden {
				hidden++
			}
			got := normal.Expr(api.Prog{}, e)
			if !slices.Equal(plain.key(got), plain.key(want)) || !normal.Same(api.Prog{}, e, api.Prog{}, apart) {
				t.Errorf("P14.1: %s: %s becomes %s, not like %s", what, show(e), show(got), show(want))
			}
			if again := normal.Expr(api.Prog{}, got); !alike(again, got) {
				t.Errorf("P14.6: %s: %s becomes %s, and this %s", what, show(e), show(got), show(again))
			}
		}
		if hidden == 0 {
			t.Errorf("%s: no ID is that of another node", what)
		}
	}
}

// TestTakenOperands has a node that gets another ID and binds operands, whose order depends on it: the result is normal. The ID 36 is ahead of most others, 14 behind them.
func TestTakenOperands(t *testing.T) {
	for _, n := range []int{0, 1, 2, 10, 12} {
		sum := func(a, b int) api.Expr { return add(add(v(a), v(b)), op(api.Mul, v(b), v(a))) }
		for _, e := range []api.Expr{
			let(13, v(n), let(n, call(f), call(f, v(13), sum(n, 14)))),
			let(13, v(n), let(n, call(f), call(f, v(13), sum(n, 36)))),
			let(13, v(n), let(n, call(f), call(f, sum(13, n), sum(36, n)))),
			let(n, call(f), match(n, shape, one(shape, 1, call(f)), num(1), call(f, add(v(n), nth(n, 1)), sum(n, 36)))),
		} {
			got := normal.Expr(api.Prog{}, e)
			if again := normal.Expr(api.Prog{}, got); !alike(again, got) {
				t.Errorf("P14.6: %s becomes %s, and this %s", show(e), show(got), show(again))
			}
			r := rule{}
			if byRule := r.normal(got); r.hidden || !alike(byRule, got) {
				t.Errorf("P14.1: %s becomes %s, which is not normal: %s", show(e), show(got), show(byRule))
			}
		}
	}
}

// TestOtherIDs has nodes that get other IDs, one after the other, where there are IDs that are zero or negative: the new ones are not among them.
func TestOtherIDs(t *testing.T) {
	least := []api.ID{{}, {Index: -1}, {Index: -2}, {Shop: -1, Index: -3}, {Index: 1}, {Index: -300}}
	build := func(a, b, c, d api.ID) api.Expr {
		at := func(id api.ID) api.Expr { return api.Expr{Kind: api.NVar, Ref: id} }
		let := func(id api.ID, a, b api.Expr) api.Expr {
			return api.Expr{ID: id, Kind: api.NLet, Kids: []api.Expr{a, b}, Names: letters(1)}
		}
		x, y := id(100), id(101)
		inner := let(y, at(b), let(d, call(f), call(f, at(x), at(y), at(c), at(d))))
		return let(x, at(a), let(c, call(f, at(a), at(b)), call(f, inner, at(c), inner)))
	}
	for _, a := range least {
		for _, b := range least {
			if a == b {
				continue
			}
			want := normal.Expr(api.Prog{}, build(a, b, id(98), id(99)))
			got := normal.Expr(api.Prog{}, build(a, b, a, b)) // both slots are taken to where nodes have their IDs
			if !slices.Equal(plain.key(got), plain.key(want)) {
				t.Errorf("P14.1: with %v and %v there is %s, not %s", a, b, show(got), show(want))
			}
		}
	}
}
