package domain_test

import (
	"math"
	"math/rand"
	"slices"
	"testing"

	"splicery/api"
	"splicery/domain"
)

func number(n int) api.Value { return api.Value{Kind: api.VInt, N: n} }

func boolean(n int) api.Value { return api.Value{Kind: api.VBool, N: n} }

func record(l ...api.Value) api.Value { return api.Value{Kind: api.VRec, Kids: l} }

func variant(n int, l ...api.Value) api.Value { return api.Value{Kind: api.VCase, N: n, Kids: l} }

func list(l ...api.Value) api.Value { return api.Value{Kind: api.VList, Kids: l} }

func other(kind, n int, l ...api.Value) api.Value { return api.Value{Kind: kind, N: n, Kids: l} }

// TestBefore has lists of values in order.
func TestBefore(t *testing.T) {
	for what, l := range map[string][][]api.Value{
		"numbers": {
			{}, {number(0)}, {number(0), number(0)}, {number(0), number(0), number(0)},
			{number(-1)}, {number(-1), number(0)}, {number(0), number(-1)}, {number(0), number(0), number(1)}, {number(0), number(1)}, {number(0), number(1), number(0)}, {number(1)}, {number(1), number(0)},
			{number(-2)}, {number(-1), number(-1)}, {number(-1), number(1)}, {number(0), number(-2)}, {number(1), number(-1)}, {number(1), number(1)}, {number(2)}, {number(2), number(0)},
			{number(-3)}, {number(3)}, {number(-10)}, {number(9), number(1)}, {number(10)}, {number(-10), number(1)}, {number(api.MaxInt)}, {number(-api.MaxInt), number(1)},
		},
		"kinds": {
			{}, {other(-1, 7)}, {other(-1, 8)}, {number(0)}, {number(0), boolean(0)}, {number(0), list()}, {boolean(0)}, {boolean(0), number(0)}, {record()}, {record(number(0))}, {record(boolean(0))}, {record(number(0), number(0))},
			{variant(0, number(0))}, {variant(0, boolean(0))}, {list()}, {list(), list()}, {other(5, 0)}, {other(5, 0, number(9))}, {other(5, 1)},
			{number(-1)}, {number(1)}, {boolean(1)}, {record(number(-1))}, {record(boolean(1))}, {variant(0, number(-1))}, {variant(1, number(0))}, {list(number(0))}, {list(boolean(0))}, {list(list())},
			{number(2)}, {boolean(1), boolean(1)}, {variant(1, number(-1))}, {variant(1, boolean(1))}, {variant(2, number(0))}, {list(number(-1))}, {list(number(0), number(0))}, {list(list(), list())},
		},
		"strange numbers": {
			{number(math.MinInt)}, {boolean(math.MinInt)}, {boolean(math.MaxInt), boolean(1)}, // the weights wrap around
			{number(math.MinInt), number(1)}, {variant(-3, number(1))}, {number(math.MaxInt), number(math.MaxInt), number(-1)},
			{boolean(-1)}, {variant(-1)}, {variant(-1), number(0)},
			{number(math.MinInt), number(math.MinInt)}, {boolean(-1), number(1)}, {boolean(1), boolean(-1)}, {record(), record(variant(-2, number(2)))},
			{record(number(math.MinInt), boolean(math.MinInt))}, {record(boolean(-1), boolean(1))}, {variant(-2, number(2))}, {other(99, -1)},
			{number(1)}, {boolean(1)}, {variant(-1, number(2))}, {list(number(0))},
			{number(math.MaxInt - 1)}, {number(-math.MaxInt)}, {boolean(math.MaxInt)},
		},
	} {
		for i, a := range l {
			for k, b := range l {
				if got := domain.Before(a, b); got != (i < k) {
					t.Errorf("P13.4: %s: Before of the lists %d and %d, %v and %v, returns %t", what, i, k, a, b, got)
				}
			}
		}
	}
	if domain.Before(nil, nil) || domain.Before(nil, []api.Value{}) || domain.Before([]api.Value{}, nil) || !domain.Before(nil, []api.Value{record()}) || domain.Before([]api.Value{record()}, nil) {
		t.Errorf("P13.4: an empty list is not before other lists, or before itself")
	}
}

// any returns a value of no type in particular.
func anyValue(r *rand.Rand, depth int) api.Value {
	numbers := []int{0, 0, 1, -1, 2, -2, 3, api.MaxInt, math.MinInt, math.MaxInt}
	v := other(r.Intn(7)-1, numbers[r.Intn(len(numbers))])
	if r.Intn(3) == 0 {
		v.N = 0
	}
	for depth > 0 && r.Intn(2) == 0 && len(v.Kids) < 3 {
		v.Kids = append(v.Kids, anyValue(r, depth-1))
	}
	return v
}

// TestBeforeOfChance compares Before of lists of any values with the rule. Of two different lists exactly one is before the other one, and what is before something that is before a third one is before this one.
func TestBeforeOfChance(t *testing.T) {
	r := rand.New(rand.NewSource(13))
	firsts, equals := 0, 0
	var l [][]api.Value
	for range 400 {
		var a []api.Value
		if len(l) > 0 && r.Intn(2) == 0 { // a beginning of another list, most often with more behind it
			a = slices.Clone(l[r.Intn(len(l))])
			a = a[:r.Intn(len(a)+1)]
		}
		for r.Intn(2) == 0 {
			a = append(a, anyValue(r, 2))
		}
		l = append(l, a)
	}
	for _, a := range l {
		for _, b := range l {
			got, back, equal := domain.Before(a, b), domain.Before(b, a), sameAll(a, b)
			if got != beforeByRule(a, b) {
				t.Fatalf("P13.4: Before of %v and %v returns %t", a, b, got)
			}
			if got == back != equal || got && back {
				t.Fatalf("P13.7: Before of %v and %v returns %t, and the other way round %t", a, b, got, back)
			}
			if got && len(a) < len(b) && sameAll(a, b[:len(a)]) {
				firsts++
			}
			if equal {
				equals++
			}
		}
	}
	for range 200000 {
		a, b, c := l[r.Intn(len(l))], l[r.Intn(len(l))], l[r.Intn(len(l))]
		if domain.Before(a, b) && domain.Before(b, c) && !domain.Before(a, c) {
			t.Fatalf("P13.7: %v is before %v, this before %v, but not the first before the last", a, b, c)
		}
	}
	if firsts < 500 || equals < 500 {
		t.Errorf("there were only %d beginnings and %d equal lists", firsts, equals)
	}
}
