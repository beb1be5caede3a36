package steps

import (
	"math/bits"
	"slices"

	"splicery/api"
	"splicery/value"
)

// operation returns the value of an operation, which may share memory with the values of its kids.
func operation(n int, l []api.Value) api.Value {
	switch n {
	case api.Less:
		return truth(l[0].N < l[1].N)
	case api.Same:
		return truth(value.Compare(l[0], l[1]) == 0)
	case api.And:
		return truth(isTrue(l[0]) && isTrue(l[1]))
	case api.Or:
		return truth(isTrue(l[0]) || isTrue(l[1]))
	case api.Not:
		return truth(!isTrue(l[0]))
	case api.Join:
		return api.Value{Kind: api.VList, Kids: slices.Concat(l[0].Kids, l[1].Kids)}
	case api.Len:
		return number(len(l[0].Kids))
	}
	return number(calculations()[n](l[0].N, l[1].N))
}

// calculations returns the operations whose operands and results are numbers.
func calculations() [5]func(a, b int) int {
	return [...]func(a, b int) int{api.Add: add, api.Sub: sub, api.Mul: mul, api.Div: div, api.Rem: rem}
}

// number returns the value of a number.
func number(n int) api.Value { return api.Value{Kind: api.VInt, N: n} }

// truth returns the value of a condition.
func truth(is bool) api.Value {
	if is {
		return api.Value{Kind: api.VBool, N: 1}
	}
	return api.Value{Kind: api.VBool}
}

// isTrue reports whether a truth value is true.
func isTrue(v api.Value) bool { return v.N != 0 }

// clip returns the number of the language that is nearest to n.
func clip(n int) int { return min(max(n, -api.MaxInt), api.MaxInt) }

// add returns the sum, clipped. It compares first, since the sum of any two ints could wrap around; sub does, too.
func add(a, b int) int {
	switch {
	case b > 0 && a > api.MaxInt-b:
		return api.MaxInt
	case b < 0 && a < -api.MaxInt-b:
		return -api.MaxInt
	}
	return clip(a + b)
}

// sub returns the difference, clipped.
func sub(a, b int) int {
	switch {
	case b < 0 && a > api.MaxInt+b:
		return api.MaxInt
	case b > 0 && a < -api.MaxInt+b:
		return -api.MaxInt
	}
	return clip(a - b)
}

// mul returns the product, clipped.
func mul(a, b int) int {
	high, low := bits.Mul64(magnitude(a), magnitude(b))
	n := api.MaxInt
	if high == 0 && low < api.MaxInt {
		n = int(low)
	}
	if (a < 0) != (b < 0) {
		return -n
	}
	return n
}

// magnitude returns a number without its sign.
func magnitude(n int) uint64 { return uint64(max(n, -n)) }

// div returns the quotient, rounded down; 0 for the divisor 0.
func div(a, b int) int {
	if b == 0 {
		return 0
	}
	q := a / b
	if a%b != 0 && (a < 0) != (b < 0) { // a / b is rounded towards 0
		q--
	}
	return q
}

// rem returns what div leaves; 0 for the divisor 0.
func rem(a, b int) int {
	if b == 0 {
		return 0
	}
	return a - b*div(a, b)
}
