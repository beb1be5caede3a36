package eval_test

import (
	"math"
	"testing"

	"splicery/api"
	"splicery/eval"
	"splicery/value"
)

const root = 1 << 20 // its square is MaxInt

// edges are numbers of the language at which sums, products and quotients change their kind.
var edges = []int{
	0, 1, 2, 3, 5, 7, 8, 10, 255, 1024, root - 1, root, root + 1, 3 * root, api.MaxInt / 3, api.MaxInt/3 + 1, api.MaxInt/2 - 1, api.MaxInt / 2, api.MaxInt/2 + 1, api.MaxInt - 2, api.MaxInt - 1, api.MaxInt,
}

// pairs calls a function with all pairs of edges, of both signs.
func pairs(call func(a, b int)) {
	for _, a := range edges {
		for _, b := range edges {
			for _, sign := range [][2]int{{1, 1}, {1, -1}, {-1, 1}, {-1, -1}} {
				call(sign[0]*a, sign[1]*b)
			}
		}
	}
}

// means checks what an operation returns, also for literals in an expression.
func means(t *testing.T, n int, want api.Value, l ...api.Value) {
	t.Helper()
	if got := eval.Op(n, l); !equal(got, want) {
		t.Errorf("P11.3: the operation %d of %+v is %+v, not %+v", n, l, got, want)
	}
	e := api.Expr{Kind: api.NOp, N: n}
	steps := 1
	for _, v := range l {
		kid := literal(v)
		e.Kids = append(e.Kids, kid)
		steps += value.Size(v) // one for each node
	}
	if got, used, code := eval.Expr(api.Prog{}, e, plenty); !equal(got, want) || used != steps || code != api.OK {
		t.Errorf("P11.3: the node %d of %+v is %+v after %d steps (error %d), not %+v", n, l, got, used, code, want)
	}
}

// literal returns an expression with a value: names of types do not count.
func literal(v api.Value) api.Expr {
	e := api.Expr{Kind: map[int]int{api.VInt: api.NInt, api.VBool: api.NBool, api.VRec: api.NRec, api.VCase: api.NCase, api.VList: api.NList}[v.Kind], N: v.N}
	for _, kid := range v.Kids {
		e.Kids = append(e.Kids, literal(kid))
	}
	return e
}

func TestNumbers(t *testing.T) {
	const most = api.MaxInt
	for _, x := range []struct{ n, a, b, want int }{
		{api.Add, 2, 3, 5},
		{api.Add, most - 1, 1, most},
		{api.Add, most, 1, most},
		{api.Add, most, most, most},
		{api.Add, -most, -1, -most},
		{api.Add, 1 - most, -1, -most},
		{api.Add, 2 - most, -1, 1 - most},
		{api.Add, -most, most, 0},
		{api.Sub, 2, 3, -1},
		{api.Sub, most - 1, -1, most},
		{api.Sub, most, -1, most},
		{api.Sub, -most, 1, -most},
		{api.Sub, 1 - most, 1, -most},
		{api.Sub, 2 - most, 1, 1 - most},
		{api.Sub, -most, most, -most},
		{api.Sub, most, -most, most},
		{api.Sub, -most, -most, 0},
		{api.Sub, 0, -most, most},
		{api.Mul, -2, 3, -6},
		{api.Mul, root, root, most},
		{api.Mul, root - 1, root + 1, most - 1},
		{api.Mul, root, root + 1, most},
		{api.Mul, -root, root, -most},
		{api.Mul, -root, root + 1, -most},
		{api.Mul, -root - 1, -root, most},
		{api.Mul, most, 2, most},
		{api.Mul, most, most, most}, // 2^80
		{api.Mul, most, -most, -most},
		{api.Mul, -most, -1, most},
		{api.Mul, 1 << 32, 1 << 32, most}, // 2^64
		{api.Mul, -1 << 32, 1 << 31, -most},
		{api.Mul, 1 << 39, 3, most},
		{api.Mul, 0, -most, 0},
		{api.Div, 7, 2, 3},
		{api.Div, -7, 2, -4},
		{api.Div, 7, -2, -4},
		{api.Div, -7, -2, 3},
		{api.Div, 6, -2, -3},
		{api.Div, -6, -2, 3},
		{api.Div, -1, most, -1},
		{api.Div, 1, most, 0},
		{api.Div, -most, -1, most},
		{api.Div, -most, 1, -most},
		{api.Div, -most, 3, -(most + 2) / 3},
		{api.Div, 5, 0, 0},
		{api.Div, -5, 0, 0},
		{api.Div, 0, 0, 0},
		{api.Div, 0, -5, 0},
		{api.Rem, 7, 2, 1},
		{api.Rem, -7, 2, 1},
		{api.Rem, 7, -2, -1},
		{api.Rem, -7, -2, -1},
		{api.Rem, 6, -2, 0},
		{api.Rem, -most, -1, 0},
		{api.Rem, -1, most, most - 1},
		{api.Rem, 1, -most, 1 - most},
		{api.Rem, -most, 3, 2}, // b * Div(a, b) is -MaxInt - 2
		{api.Rem, most, -3, -2},
		{api.Rem, -most, most - 1, most - 2}, // it is -2 * (MaxInt - 1)
		{api.Rem, most, 1 - most, 2 - most},
		{api.Rem, 5, 0, 0},
		{api.Rem, -5, 0, 0},
		{api.Rem, 0, 0, 0},
	} {
		means(t, x.n, number(x.want), number(x.a), number(x.b))
	}
	pairs(func(a, b int) {
		for n := api.Add; n <= api.Rem; n++ {
			means(t, n, number(numberByRule(n, a, b)), number(a), number(b))
		}
		means(t, api.Less, boolean(a < b), number(a), number(b))
		means(t, api.Same, boolean(a == b), number(a), number(b))
	})
}

// TestLaws checks P11.10.
func TestLaws(t *testing.T) {
	of := func(n, a, b int) int { return eval.Op(n, []api.Value{number(a), number(b)}).N }
	pairs(func(a, b int) {
		for _, n := range []int{api.Add, api.Mul, api.Same} {
			if of(n, a, b) != of(n, b, a) {
				t.Errorf("P11.10: the operation %d of %d and %d depends on their order", n, a, b)
			}
		}
		if b == 0 {
			return
		}
		q, r := of(api.Div, a, b), of(api.Rem, a, b)
		if a != b*q+r || r != 0 && (r < 0) != (b < 0) || max(r, -r) >= max(b, -b) {
			t.Errorf("P11.10: %d by %d is %d, rest %d", a, b, q, r)
		}
	})
	for _, n := range []int{api.And, api.Or} {
		for i := range 4 {
			a, b := boolean(i&1 > 0), boolean(i&2 > 0)
			if !equal(eval.Op(n, []api.Value{a, b}), eval.Op(n, []api.Value{b, a})) {
				t.Errorf("P11.10: the operation %d of %+v and %+v depends on their order", n, a, b)
			}
		}
	}
}

func TestTruth(t *testing.T) {
	for i := range 4 {
		a, b := i&1 > 0, i&2 > 0
		means(t, api.And, boolean(a && b), boolean(a), boolean(b))
		means(t, api.Or, boolean(a || b), boolean(a), boolean(b))
		means(t, api.Same, boolean(a == b), boolean(a), boolean(b))
		means(t, api.Not, boolean(!a), boolean(a))
	}
}

// TestSame has values of each kind.
func TestSame(t *testing.T) {
	kinds := [][]api.Value{ // values of one type
		{number(0), number(1), number(-1), number(api.MaxInt)},
		{boolean(false), boolean(true)},
		{record(number(0), boolean(true)), record(number(1), boolean(true)), record(number(0), boolean(false))},
		{variant(0, number(1)), variant(1, number(1)), variant(1, number(2)), variant(2, record(number(1), number(2)))},
		{values(), numbers(0), numbers(1), numbers(0, 0), numbers(0, 1), numbers(1, 0), numbers(0, 0, 0)},
		{values(values()), values(), values(values(), values()), values(numbers(1)), values(values(), numbers(1)), values(numbers(1), values())},
		{record(values(), values(variant(0, values()))), record(values(), values(variant(1, values()))), record(values(), values())},
	}
	for _, l := range kinds {
		for i, a := range l {
			for j, b := range l {
				means(t, api.Same, boolean(i == j), a, b)
			}
		}
	}
	nilKids, noKids := api.Value{Kind: api.VList}, api.Value{Kind: api.VList, Kids: []api.Value{}}
	if v := eval.Op(api.Same, []api.Value{nilKids, noKids}); !equal(v, boolean(true)) {
		t.Errorf("P11.3: empty lists are different: %+v", v)
	}
}

func TestLists(t *testing.T) {
	for _, x := range []struct{ a, b, both []int }{
		{nil, nil, nil}, {[]int{1}, nil, []int{1}}, {nil, []int{1}, []int{1}}, {[]int{1, 2}, []int{3}, []int{1, 2, 3}}, {[]int{3}, []int{1, 2}, []int{3, 1, 2}}, {[]int{1, 1}, []int{1, 1}, []int{1, 1, 1, 1}},
	} {
		means(t, api.Join, numbers(x.both...), numbers(x.a...), numbers(x.b...))
		means(t, api.Len, number(len(x.both)), numbers(x.both...))
	}
	one := record(number(1), values(boolean(true)))
	means(t, api.Join, values(one, one), values(one), values(one))
	means(t, api.Join, values(values(), numbers(1), values()), values(values(), numbers(1)), values(values()))
	means(t, api.Len, number(2), values(numbers(1, 2, 3), values()))
	means(t, api.Len, number(255), numbers(make([]int, 255)...))
	means(t, api.Join, numbers(make([]int, 255)...), numbers(make([]int, 127)...), numbers(make([]int, 128)...))
	long := numbers(make([]int, 300)...)
	if v := eval.Op(api.Join, []api.Value{long, long}); !equal(v, numbers(make([]int, 600)...)) {
		t.Errorf("P11.3: the list of %d elements is not that of both, since Op knows no limits", len(v.Kids))
	}
	if v := eval.Op(api.Len, []api.Value{long}); !equal(v, number(300)) {
		t.Errorf("P11.3: 300 elements are %+v", v)
	}
}

// TestNoOperation has arguments for which nothing is specified: nothing panics, also with numbers of any size.
func TestNoOperation(t *testing.T) {
	odd := []api.Value{number(3), number(math.MinInt), number(math.MaxInt), number(-1), boolean(true), values(), numbers(1), record(), variant(1, number(2)), {Kind: 9}, {Kind: api.VBool, N: 7}}
	for _, n := range []int{math.MinInt, -1, api.Len + 1, math.MaxInt} {
		eval.Op(n, odd[:2])
	}
	for n := api.Add; n <= api.Len; n++ {
		eval.Op(n, nil)
		eval.Op(n, odd)
		for _, a := range odd {
			eval.Op(n, []api.Value{a})
			for _, b := range odd {
				eval.Op(n, []api.Value{a, b})
			}
		}
	}
	for _, x := range []struct{ n, a, b, want int }{ // the mathematical results, of numbers that are none of the language
		{api.Add, math.MaxInt, math.MaxInt, api.MaxInt}, {api.Add, math.MinInt, math.MinInt, -api.MaxInt}, {api.Add, math.MinInt, math.MaxInt, -1}, {api.Add, math.MinInt, 1, -api.MaxInt}, {api.Add, math.MaxInt, -1, api.MaxInt},
		{api.Sub, math.MaxInt, math.MinInt, api.MaxInt}, {api.Sub, math.MinInt, math.MaxInt, -api.MaxInt}, {api.Sub, math.MinInt, math.MinInt, 0}, {api.Sub, math.MinInt, -1, -api.MaxInt}, {api.Sub, math.MaxInt, 1, api.MaxInt},
		{api.Mul, math.MinInt, math.MinInt, api.MaxInt}, {api.Mul, math.MinInt, 1, -api.MaxInt}, {api.Mul, math.MinInt, -1, api.MaxInt}, {api.Mul, math.MinInt, 0, 0},
	} {
		if v := eval.Op(x.n, []api.Value{number(x.a), number(x.b)}); !equal(v, number(x.want)) {
			t.Errorf("P11.3: the operation %d of %d and %d is %+v", x.n, x.a, x.b, v)
		}
	}
}
