package equiv

import (
	"cmp"
	"slices"

	"splicery/api"
	"splicery/value"
)

// right reports whether a proof is right for values of the first slots.
func (x *pair) right(p Proof, l []api.Value) bool {
	k := len(l)
	switch {
	case p.Normal:
		return p.Slot == 0 && len(p.Kids) == 0 && len(p.Result) == 0 && x.agree(l)
	case k == len(x.a.def.Slots):
		return p.Slot == 0 && len(p.Kids) == 0 && x.rightResult(p.Result, l)
	}
	values := x.domain(k)
	if p.Slot != k || len(p.Kids) != len(values) || len(p.Result) > 0 {
		return false
	}
	for i, v := range values {
		if !x.right(p.Kids[i], append(l, v)) {
			return false
		}
	}
	return true
}

// rightResult reports whether a result has what both calls with an input return, or is empty and one of them fails.
func (x *pair) rightResult(result, l []api.Value) bool {
	v, w, ok := x.call(l)
	if !ok || len(result) != 1 {
		return !ok && len(result) == 0
	}
	return value.Compare(result[0], v) == 0 && value.Compare(v, w) == 0
}

// order is the order of the values of a domain.
func order(a, b api.Value) int {
	return cmp.Or(cmp.Compare(value.Weight(a), value.Weight(b)), value.Compare(a, b))
}

// place returns the place of an input among all of them, if they are ordered by the first value, then by the next one, and so on, as in a proof by cases.
func (x *pair) place(l []api.Value) int {
	n := 0
	for k, v := range l {
		values := x.domain(k)
		i, _ := slices.BinarySearchFunc(values, v, order)
		n = n*len(values) + i
	}
	return n
}

// cases returns the proof by cases of the values of the slots from k on, where results has what the calls with all inputs have returned that begin with the values of the slots before, by their places.
func (x *pair) cases(k int, results [][]api.Value) Proof {
	if k == len(x.a.def.Slots) {
		return Proof{Result: results[0]}
	}
	p := Proof{Slot: k}
	for n := len(x.domain(k)); len(p.Kids) < n; {
		i := len(p.Kids)
		p.Kids = append(p.Kids, x.cases(k+1, results[len(results)*i/n:len(results)*(i+1)/n]))
	}
	return p
}
