package eval_test

import (
	"slices"
	"testing"

	"splicery/api"
)

// zeros returns a list of n zeros, which has n + 1 nodes and as many steps.
func zeros(n int) api.Expr { return list(whole, make([]api.Expr, n)...) }

// long returns the value of zeros.
func long(n int) api.Value { return numbers(make([]int, n)...) }

// nested returns a list of the depth n.
func nested(n int) api.Expr {
	e := list(whole)
	t := whole
	for range n - 1 {
		t = listOf(t)
		e = list(t, e)
	}
	return e
}

// deepValue returns the value of nested.
func deepValue(n int) api.Value {
	v := values()
	for range n - 1 {
		v = values(v)
	}
	return v
}

// TestFuel has what fails at which step: gives tries fuel that is negative, 0, too little, enough and more.
func TestFuel(t *testing.T) {
	p := world()
	for fuel := -3; fuel < 20; fuel++ {
		want, code := boolean(true), api.OK
		if fuel < 10 {
			want, code = api.Value{}, api.ErrFuel
		}
		for what, run := range map[string]runner{"a call": calls(p, testT, number(1), boolean(true)), "an expression": expr(p, p.Defs[testT-1].Body)} {
			if what == "an expression" {
				run = expr(p, op(api.Less, call(funF, num(1), rec(recP, num(1), is(1))), num(3)))
			}
			v, steps, got := run(fuel)
			if !equal(v, want) || got != code || code == api.OK && steps != 10 || code != api.OK && steps != 0 {
				t.Errorf("P11.5: with the fuel %d %s has the value %+v after %d steps (error %d)", fuel, what, v, steps, got)
			}
		}
	}
	// What is not evaluated costs nothing.
	gives(t, "a branch", expr(p, cond(is(1), num(1), zeros(200))), number(1), 3)
	gives(t, "no element", expr(p, fold(10, nums(), num(1), zeros(200))), number(1), 3)
}

// TestSize has values of 256 and of 257 nodes, which each kind of node makes.
func TestSize(t *testing.T) {
	p := prog(
		def(1, api.KRec, whole, api.Expr{}, listOf(whole), whole),
		def(2, api.KCase, whole, api.Expr{}, whole, listOf(whole)),
		def(3, api.KFun, listOf(whole), op(api.Join, v(301), v(302)), listOf(whole), listOf(whole)),
		def(4, api.KRec, whole, api.Expr{}, whole, whole, whole, whole),
	)
	for _, x := range []struct {
		what string
		make func(n int) api.Expr
		want func(n int) api.Value
		fits int // the n for which the value has 256 nodes
		more int // how many steps there are besides those of n elements
	}{
		{"a list", zeros, long, 255, 1},
		{"a record", func(n int) api.Expr { return rec(1, zeros(n), num(0)) }, func(n int) api.Value { return record(long(n), number(0)) }, 253, 3},
		{"a case", func(n int) api.Expr { return one(2, 1, zeros(n)) }, func(n int) api.Value { return variant(1, long(n)) }, 254, 2},
		{"two lists", func(n int) api.Expr { return op(api.Join, zeros(n-100), zeros(100)) }, long, 255, 3},
		{"a list and an empty one", func(n int) api.Expr { return op(api.Join, zeros(0), op(api.Join, zeros(n-1), zeros(1))) }, long, 255, 5},
		{"a list of lists", func(n int) api.Expr { return list(listOf(whole), zeros(n-100), zeros(100)) }, func(n int) api.Value { return values(long(n-100), long(100)) }, 253, 3},
		{"a list of records", func(n int) api.Expr {
			r := rec(4, num(0), num(0), num(0), num(0))
			return list(of(4), append(slices.Repeat([]api.Expr{r}, 50), zeros(n))...) // of different types, which do not count
		}, func(n int) api.Value {
			return values(append(slices.Repeat([]api.Value{record(number(0), number(0), number(0), number(0))}, 50), long(n))...)
		}, 4, 252},
		{"a call", func(n int) api.Expr { return call(3, zeros(n-100), zeros(100)) }, long, 255, 6},
	} {
		steps := x.fits + x.more
		gives(t, x.what+" of 256 nodes", expr(p, x.make(x.fits)), x.want(x.fits), steps)
		failsAfter(t, x.what+" of 257 nodes", expr(p, x.make(x.fits+1)), steps+1, api.ErrLimit)
		// Inside of others, the nodes that would follow are not evaluated.
		for what, around := range map[string]func(e api.Expr) api.Expr{
			"a let":           func(e api.Expr) api.Expr { return let(10, e, zeros(300)) },
			"an operation":    func(e api.Expr) api.Expr { return op(api.Same, e, zeros(300)) },
			"a condition":     func(e api.Expr) api.Expr { return cond(op(api.Same, e, e), zeros(300), zeros(300)) },
			"a fold":          func(e api.Expr) api.Expr { return fold(10, e, zeros(300), num(0)) },
			"a field":         func(e api.Expr) api.Expr { return field(1, 0, rec(1, e, zeros(300))) },
			"a call":          func(e api.Expr) api.Expr { return call(3, e, zeros(300)) },
			"a length":        func(e api.Expr) api.Expr { return op(api.Len, e) },
			"a branch":        func(e api.Expr) api.Expr { return cond(e, num(0), num(0)) },
			"a larger record": func(e api.Expr) api.Expr { return rec(1, e, num(0)) },
		} {
			extra := 1
			switch what {
			case "a condition", "a field":
				extra = 2
			}
			failsAfter(t, x.what+" of 257 nodes inside of "+what, expr(p, around(x.make(x.fits+1))), steps+1+extra, api.ErrLimit)
		}
	}
	gives(t, "the length of a list of 256 nodes", expr(p, op(api.Len, zeros(255))), number(255), 257)
	gives(t, "a variable of 256 nodes", expr(p, let(10, zeros(255), v(10))), long(255), 258)
	gives(t, "an arg of 256 nodes", calls(p, 3, long(255), long(0)), long(255), 3)
	failsAfter(t, "args of 129 nodes", calls(p, 3, long(128), long(128)), 3, api.ErrLimit)
	fails(t, "an arg of 257 nodes", calls(p, 3, long(256), long(0)), plenty, api.ErrArg)
	// A fold fails at the element at which its value is too large.
	double := fold(10, nums(1, 2, 3, 4, 5, 6, 7, 8), nums(0), op(api.Join, nth(10, 1), nth(10, 1)))
	failsAfter(t, "a fold that doubles a list", expr(p, double), 1+9+2+8*3, api.ErrLimit)
	double.Kids[0] = nums(1, 2, 3, 4, 5, 6, 7)
	gives(t, "a fold that doubles a list", expr(p, double), long(128), 1+8+2+7*3)
}

// TestDepth has values of the depth 24 and 25, which each kind of node makes.
func TestDepth(t *testing.T) {
	p := prog(
		def(1, api.KRec, whole, api.Expr{}, whole, listOf(whole)),
		def(2, api.KCase, whole, api.Expr{}, whole, listOf(whole)),
		def(3, api.KFun, listOf(whole), list(listOf(whole), v(301)), listOf(whole)),
	)
	for _, x := range []struct {
		what string
		make func(e api.Expr) api.Expr
		want func(v api.Value) api.Value
		more int // how many steps there are besides those of the inner list
	}{
		{"a list", func(e api.Expr) api.Expr { return list(listOf(whole), e) }, func(v api.Value) api.Value { return values(v) }, 1},
		{"a list with another element", func(e api.Expr) api.Expr { return list(listOf(whole), e, nums(1)) }, func(v api.Value) api.Value { return values(v, numbers(1)) }, 3},
		{"a list with another first element", func(e api.Expr) api.Expr { return list(listOf(whole), nums(1), e) }, func(v api.Value) api.Value { return values(numbers(1), v) }, 3},
		{"a record", func(e api.Expr) api.Expr { return rec(1, num(1), e) }, func(v api.Value) api.Value { return record(number(1), v) }, 2},
		{"a case", func(e api.Expr) api.Expr { return one(2, 1, e) }, func(v api.Value) api.Value { return variant(1, v) }, 1},
		{"a call", func(e api.Expr) api.Expr { return call(3, e) }, func(v api.Value) api.Value { return values(v) }, 3},
		{"a variable", func(e api.Expr) api.Expr { return let(10, e, list(listOf(whole), v(10))) }, func(v api.Value) api.Value { return values(v) }, 3},
	} {
		gives(t, x.what+" of the depth 24", expr(p, x.make(nested(23))), x.want(deepValue(23)), 23+x.more)
		failsAfter(t, x.what+" of the depth 25", expr(p, x.make(nested(24))), 24+x.more, api.ErrLimit)
		failsAfter(t, x.what+" of the depth 25 in a let", expr(p, let(11, x.make(nested(24)), zeros(300))), 25+x.more, api.ErrLimit)
		failsAfter(t, x.what+" of the depth 25 in a length", expr(p, op(api.Len, list(whole, x.make(nested(24)), zeros(300)))), 26+x.more, api.ErrLimit)
	}
	gives(t, "a list of the depth 24", expr(p, nested(24)), deepValue(24), 24)
	failsAfter(t, "a list of the depth 26", expr(p, nested(26)), 26-1+1, api.ErrLimit)
	gives(t, "two lists of the depth 24", expr(p, op(api.Join, nested(24), nested(24))), values(deepValue(23), deepValue(23)), 49)
	inner := record(number(1), values())
	gives(t, "a record with an empty list, which has the depth 1", expr(p, rec(1, num(1), zeros(0))), inner, 3)
	gives(t, "a number in a list of the depth 23", expr(p, wrapped(num(5), 23)), wrappedValue(number(5), 23), 24)
	failsAfter(t, "a number in a list of the depth 24", expr(p, wrapped(num(5), 24)), 25, api.ErrLimit)
	gives(t, "an arg of the depth 23", calls(deepSlot(23), 3, deepArg(23)), deepArg(24), 2)
	failsAfter(t, "an arg of the depth 24", calls(deepSlot(24), 3, deepArg(24)), 2, api.ErrLimit)
	fails(t, "an arg of the depth 25", calls(deepSlot(25), 3, deepArg(25)), plenty, api.ErrArg)
}

// wrapped returns a list that has an expression n levels below.
func wrapped(e api.Expr, n int) api.Expr {
	for range n {
		e = list(whole, e)
	}
	return e
}

func wrappedValue(v api.Value, n int) api.Value {
	for range n {
		v = values(v)
	}
	return v
}

// deepSlot returns a program with the function 3, which makes a list of an arg that may have a depth: as far as types permit, lists around a record of lists.
func deepSlot(depth int) api.Prog {
	inner, outer := whole, of(1)
	for range 10 {
		inner = listOf(inner)
	}
	for range depth - 11 {
		outer = listOf(outer)
	}
	return prog(def(1, api.KRec, whole, api.Expr{}, inner), def(3, api.KFun, listOf(outer), list(outer, v(301)), outer))
}

// deepArg returns an arg of a depth for the function 3 of deepSlot.
func deepArg(depth int) api.Value { return wrappedValue(record(deepValue(10)), depth-11) }

// TestFirst has evaluations that would fail in two ways: the first failure counts.
func TestFirst(t *testing.T) {
	p := prog(def(1, api.KFun, whole, zeros(256)))
	// The value is too large after 257 steps, if there is fuel for them.
	failsAfter(t, "a large list in front of more nodes", expr(p, op(api.Same, zeros(256), zeros(5))), 258, api.ErrLimit)
	failsAfter(t, "a large list behind more nodes", expr(p, op(api.Same, zeros(5), zeros(256))), 264, api.ErrLimit)
	failsAfter(t, "two large lists", expr(p, op(api.Same, zeros(400), zeros(256))), 402, api.ErrLimit)
	failsAfter(t, "a large list in a call", expr(p, call(1)), 258, api.ErrLimit)
	failsAfter(t, "a large body", calls(p, 1), 257, api.ErrLimit)
	// A large list of lists that are too deep: the first node whose evaluation ends counts, not the first that begins.
	deep := list(whole, append([]api.Expr{nested(25)}, make([]api.Expr, 300)...)...)
	failsAfter(t, "a deep list in a large one", expr(p, deep), 26, api.ErrLimit)
	slices.Reverse(deep.Kids)
	failsAfter(t, "a deep list at the end of a large one", expr(p, deep), 326, api.ErrLimit)
}
