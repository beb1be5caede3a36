package equiv_test

import (
	"math"
	"slices"
	"testing"

	"splicery/api"
	"splicery/equiv"
)

// checked checks whether a proof is right, in both orders and by the rule.
func checked(t *testing.T, what string, x two, proof equiv.Proof, want bool) {
	t.Helper()
	code := api.OK
	if !want {
		code = api.ErrCheck
	}
	for _, x := range []two{x, x.back()} {
		if e := checkByRule(x, proof); e != code {
			t.Errorf("%s: by the rule Check of %+v returns the error %d", what, proof, e)
		}
		if e := x.check(proof); e != code {
			t.Errorf("P15.3: %s: Check of %+v returns the error %d, not %d", what, proof, e, code)
		}
	}
}

// TestProofs has proofs for a function of two slots and another one that is equal to it for some of the values of the first one by their normal forms.
func TestProofs(t *testing.T) {
	a, b := v(3001), v(3002)
	f := func(body api.Expr) api.Prog { return prog(within(def(30, api.KFun, whole, body, whole, truth), 1, 0)) }
	// The domains are 0, -1, 1 and false, true. For 0 the bodies agree if the first value is known, and for others only if both are.
	x := pair(f(cond(op(api.Less, op(api.Mul, a, a), num(1)), num(5), cond(b, a, num(3)))), f(cond(op(api.Same, a, num(0)), num(5), cond(not(b), num(3), a)))).sound(t)
	five, three := returns(number(5)), returns(number(3))
	zero, minus, plus := split(1, five, five), split(1, three, returns(number(-1))), split(1, three, returns(number(1)))
	bad := func(l ...equiv.Proof) equiv.Proof { return split(0, l...) }
	with := func(p equiv.Proof, change func(p *equiv.Proof)) equiv.Proof {
		p.Kids = slices.Clone(p.Kids)
		change(&p)
		return p
	}
	for what, y := range map[string]struct {
		proof equiv.Proof
		want  bool
	}{
		"by cases":                                {split(0, zero, minus, plus), true},
		"by forms":                                {byForms, false},
		"by forms for 0":                          {split(0, byForms, minus, plus), true},
		"by forms for -1":                         {split(0, zero, byForms, plus), false},
		"by forms for 1":                          {split(0, zero, minus, byForms), false},
		"by forms for all pairs":                  {split(0, split(1, byForms, byForms), split(1, byForms, byForms), split(1, byForms, byForms)), true},
		"by forms for one pair":                   {split(0, zero, split(1, three, byForms), plus), true},
		"the empty one":                           {equiv.Proof{}, false},
		"the cases of no value":                   {split(0), false},
		"one case less":                           {split(0, zero, minus), false},
		"one case more":                           {split(0, zero, minus, plus, plus), false},
		"the first case missing":                  {split(0, minus, plus), false},
		"cases in another order":                  {split(0, minus, zero, plus), false},
		"the other slot first":                    {split(1, zero, minus, plus), false},
		"the slot -1":                             {with(split(0, zero, minus, plus), func(p *equiv.Proof) { p.Slot = -1 }), false},
		"the slots from 1 on":                     {split(1, split(2, five, five), split(2, three, returns(number(-1))), split(2, three, returns(number(1)))), false},
		"a result ahead of the cases":             {with(split(0, zero, minus, plus), func(p *equiv.Proof) { p.Result = numbers(5) }), false},
		"a result for one slot":                   {split(0, five, minus, plus), false},
		"an empty result for one slot":            {split(0, zero, minus, equiv.Proof{}), false},
		"one case less inside":                    {split(0, zero, split(1, three), plus), false},
		"one case more inside":                    {split(0, zero, split(1, three, returns(number(-1)), returns(number(-1))), plus), false},
		"cases in another order inside":           {split(0, zero, split(1, returns(number(-1)), three), plus), false},
		"the first slot again":                    {split(0, zero, minus, split(0, plus.Kids...)), false},
		"the first slot again, with all":          {split(0, zero, minus, split(0, zero, minus, plus)), false},
		"a third slot":                            {split(0, split(1, split(2, five), five), minus, plus), false},
		"the slot 2 of a result":                  {split(0, split(1, equiv.Proof{Slot: 2, Result: numbers(5)}, five), minus, plus), false},
		"the slot 1 of a result":                  {split(0, split(1, equiv.Proof{Slot: 1, Result: numbers(5)}, five), minus, plus), false},
		"kids of a result":                        {split(0, split(1, equiv.Proof{Kids: []equiv.Proof{five}, Result: numbers(5)}, five), minus, plus), false},
		"kids of a result that are by forms":      {split(0, split(1, equiv.Proof{Kids: []equiv.Proof{byForms}, Result: numbers(5)}, five), minus, plus), false},
		"another result":                          {split(0, split(1, five, three), minus, plus), false},
		"another last result":                     {split(0, zero, minus, split(1, three, returns(number(2)))), false},
		"a truth value":                           {split(0, zero, minus, split(1, three, returns(fact(1)))), false},
		"a result with kids":                      {split(0, zero, minus, split(1, three, returns(api.Value{N: 1, Kids: numbers(1)}))), false},
		"the result twice":                        {split(0, zero, minus, split(1, three, returns(number(1), number(1)))), false},
		"a further result":                        {split(0, zero, minus, split(1, three, returns(number(1), number(2)))), false},
		"no result":                               {split(0, zero, minus, split(1, three, equiv.Proof{})), false},
		"by forms with the slot 1":                {split(0, equiv.Proof{Normal: true, Slot: 1}, minus, plus), false},
		"by forms with cases":                     {split(0, equiv.Proof{Normal: true, Kids: zero.Kids}, minus, plus), false},
		"by forms with a result":                  {split(0, equiv.Proof{Normal: true, Result: numbers(5)}, minus, plus), false},
		"by forms with the slot 1 and its cases":  {split(0, equiv.Proof{Normal: true, Slot: 1, Kids: zero.Kids}, minus, plus), false},
		"by forms with a result of a pair":        {split(0, split(1, equiv.Proof{Normal: true, Result: numbers(5)}, five), minus, plus), false},
		"by forms with the slot 2 of a pair":      {split(0, split(1, equiv.Proof{Normal: true, Slot: 2}, five), minus, plus), false},
		"cases that are by forms at the root":     {with(split(0, zero, minus, plus), func(p *equiv.Proof) { p.Normal = true }), false},
		"cases that are by forms further inside":  {split(0, with(zero, func(p *equiv.Proof) { p.Normal = true }), minus, plus), false},
		"the greatest slot":                       {bad(zero, minus, split(math.MaxInt, plus.Kids...)), false},
		"the least slot":                          {bad(zero, minus, split(math.MinInt, plus.Kids...)), false},
		"nothing but the number of the next slot": {bad(zero, minus, split(1)), false},
	} {
		checked(t, what, x, y.proof, y.want)
	}
	if proof := x.equal(t, "two slots", false); !rightByRule(x, proof, nil) {
		t.Errorf("P15.2: Differ returns the proof %+v", proof)
	}
}

// TestNoSlots has proofs for definitions without slots.
func TestNoSlots(t *testing.T) {
	f := func(body api.Expr) api.Prog { return prog(def(30, api.KFun, whole, body)) }
	length := size(list(whole, num(4), num(5)))
	x := pair(f(length), f(num(2))).sound(t)
	checked(t, "no slots, by the result", x, returns(number(2)), true)
	checked(t, "no slots, another result", x, returns(number(3)), false)
	checked(t, "no slots, by forms", x, byForms, false)
	checked(t, "no slots, no result", x, equiv.Proof{}, false)
	checked(t, "no slots, a case", x, split(0, returns(number(2))), false)
	x.equal(t, "no slots", false)
	pair(f(length), f(num(3))).differs(t, "no slots")
	y := pair(f(num(2)), f(add(num(1), num(1)))).sound(t)
	checked(t, "no slots, a number by forms", y, byForms, true)
	checked(t, "no slots, a number by the result", y, returns(number(2)), true)
	y.equal(t, "no slots, a number", true)
	for _, l := range [][]api.Value{numbers(0), {fact(0)}, numbers(0, 0)} {
		if pair(f(num(2)), f(num(3))).witness(l) {
			t.Errorf("P15.4: %+v is a witness of definitions without slots", l)
		}
	}
}

// TestDiffers has proofs for definitions that differ: none is right.
func TestDiffers(t *testing.T) {
	f := func(body api.Expr) api.Prog { return prog(within(def(30, api.KFun, whole, body, whole), 1)) }
	x := pair(f(v(3001)), f(op(api.Mul, v(3001), v(3001)))).sound(t)
	x.differs(t, "a square", number(-1))
	zero, plus := returns(number(0)), returns(number(1))
	for what, minus := range map[string]equiv.Proof{"the first result": returns(number(-1)), "the second one": plus, "both": returns(number(-1), number(1)), "none": {}, "by forms": byForms} {
		checked(t, "they differ, with "+what, x, split(0, zero, minus, plus), false)
	}
	y := pair(f(v(3001)), prog(within(def(30, api.KFun, truth, op(api.Less, num(0), v(3001)), whole), 0))).sound(t)
	y.differs(t, "results of different types", number(0))
	checked(t, "results of different types", y, split(0, returns(number(0))), false)
}

// TestFuel has calls that fail on one side, or on both.
func TestFuel(t *testing.T) {
	f := func(body api.Expr) api.Prog { return prog(within(def(30, api.KFun, whole, body, truth), 0)) }
	a := v(3001)
	quick := f(cond(a, num(1), num(2)))                                                                  // 3 steps
	slow := func(n int) api.Prog { return f(cond(a, cond(a, cond(a, num(n), num(0)), num(0)), num(2))) } // 7 steps for true
	for fuel, fails := range map[int]int{math.MinInt: 2, -1: 2, 0: 2, 2: 2, 3: 1, 6: 1, 7: 0, 100: 0, api.MaxFuel: 0} {
		for _, n := range []int{1, 7} {
			x := pair(quick, slow(n)).sound(t)
			x.fuel = fuel
			one, two := returns(number(1)), returns(number(2))
			if fails > 0 {
				one = equiv.Proof{}
			}
			if fails > 1 {
				two = equiv.Proof{}
			}
			differ := n == 7 && fails == 0
			checked(t, "calls that fail", x, split(0, two, one), !differ)
			checked(t, "a result of a call that fails", x, split(0, two, returns(number(1))), !differ && fails == 0)
			checked(t, "a result of the other call", x, split(0, two, returns(number(7))), false)
			checked(t, "results of calls that fail", x, split(0, returns(number(2)), one), !differ && fails < 2)
			if differ {
				x.differs(t, "calls that do not fail", fact(1))
			} else {
				x.equal(t, "calls that fail", false)
			}
			if got := x.witness([]api.Value{fact(1)}); got != differ {
				t.Errorf("P15.4: with the fuel %d, that true is a witness is %v", fuel, got)
			}
		}
	}
}

// TestLimit has calls whose values are too large.
func TestLimit(t *testing.T) {
	double := func(n int, e api.Expr) api.Expr {
		for i := range n {
			e = let(50+i, e, op(api.Join, v(50+i), v(50+i)))
		}
		return size(e)
	}
	f := func(n int) api.Prog {
		return prog(within(def(30, api.KFun, whole, double(n, list(whole, v(3001))), whole), 1))
	}
	x := pair(f(7), f(8)).sound(t) // 128 elements, and 256 with the list itself are too many
	x.equal(t, "values that are too large", false)
	checked(t, "values that are too large", x, split(0, equiv.Proof{}, equiv.Proof{}, equiv.Proof{}), true)
	checked(t, "the value of the other call", x, split(0, equiv.Proof{}, returns(number(128)), equiv.Proof{}), false)
	pair(f(6), f(7)).sound(t).differs(t, "values that are not too large", number(0))
}

// TestWitness has inputs outside of the domain, and some that are none.
func TestWitness(t *testing.T) {
	a, b := v(3001), v(3002)
	f := func(n int) api.Prog {
		return with(within(def(30, api.KFun, whole, cond(op(api.Less, num(1000), a), num(n), size(b)), whole, listOf(of(point))), 1, 0))
	}
	x := pair(f(1), f(2)).sound(t)
	x.equal(t, "a difference behind the domain", false)
	p := record(number(1), fact(0))
	for _, y := range []struct {
		l    []api.Value
		want bool
	}{
		{[]api.Value{number(1001), several()}, true}, {[]api.Value{number(1001), several(p, p, p)}, true}, {[]api.Value{number(api.MaxInt), several()}, true},
		{[]api.Value{number(1000), several()}, false}, {[]api.Value{number(0), several()}, false},
		{[]api.Value{number(api.MaxInt + 1), several()}, false}, {[]api.Value{number(1001)}, false}, {nil, false}, {[]api.Value{number(1001), several(), number(1)}, false},
		{[]api.Value{number(1001), number(1)}, false}, {[]api.Value{number(1001), several(number(1))}, false}, {[]api.Value{several(), number(1001)}, false},
		{[]api.Value{{N: 1001, Kids: numbers(1)}, several()}, false}, {[]api.Value{{Kind: 9, N: 1001}, several()}, false}, {[]api.Value{number(1001), {Kind: api.VList, N: 1}}, false},
	} {
		if got := x.witness(y.l); got != y.want || got != differsByRule(x, y.l) {
			t.Errorf("P15.4: that %+v is a witness is %v", y.l, got)
		}
		if got := x.back().witness(y.l); got != y.want {
			t.Errorf("P15.8: that %+v is a witness in the opposite order is %v", y.l, got)
		}
	}
	for what, x := range map[string]two{"a missing definition": {f(1), id(30), f(2), id(31), 100}, "a record": {f(1), id(point), f(2), id(point), 100}, "other slots": pair(f(1), with(constant(2, whole)))} {
		for _, l := range [][]api.Value{nil, numbers(2000), {number(2000), several()}} {
			if x.witness(l) {
				t.Errorf("P15.4: %s: %+v is a witness", what, l)
			}
		}
	}
}

// TestLiterals compares a slot with a body that is the literal of its value as soon as this is known.
func TestLiterals(t *testing.T) {
	const single, mixed = 24, 25
	a := v(3001)
	equal := func(e api.Expr) api.Expr { return op(api.Same, a, e) }
	for what, x := range map[string]struct {
		t    api.Type
		most int
		n    int // the number of values
		body api.Expr
		want bool
	}{
		"a number":                   {whole, 0, 1, num(0), true},
		"another number":             {whole, 0, 1, num(1), false},
		"numbers":                    {whole, 1, 3, cond(equal(num(-1)), num(-1), cond(equal(num(0)), num(0), num(1))), true},
		"other numbers":              {whole, 1, 3, cond(equal(num(-1)), num(1), cond(equal(num(0)), num(0), num(1))), false},
		"truth values":               {truth, 0, 2, cond(a, is(1), is(0)), true},
		"other truth values":         {truth, 0, 2, cond(a, is(0), is(1)), false},
		"the empty list":             {listOf(whole), 0, 1, list(whole), true},
		"a list of a number":         {listOf(whole), 0, 1, list(whole, num(0)), false},
		"the empty list of lists":    {listOf(listOf(truth)), 0, 1, list(listOf(truth)), true},
		"a record":                   {of(tank), 0, 1, rec(tank, list(of(shape))), true},
		"another record":             {of(tank), 0, 1, rec(tank, list(of(shape), one(shape, 0, num(0)))), false},
		"a case":                     {of(single), 0, 1, one(single, 0, num(0)), true},
		"another case":               {of(single), 0, 1, one(single, 0, num(1)), false},
		"parts of all kinds":         {of(mixed), 0, 1, rec(mixed, list(whole), one(single, 0, num(0)), rec(tank, list(of(shape)))), true},
		"another part":               {of(mixed), 0, 1, rec(mixed, list(whole), one(single, 0, num(1)), rec(tank, list(of(shape)))), false},
		"records of what they have":  {of(point), 0, 2, rec(point, field(point, 0, a), cond(field(point, 1, a), is(1), is(0))), true},
		"branches that become equal": {listOf(of(point)), 0, 1, cond(equal(list(of(point))), list(of(point)), a), true},
	} {
		f := func(body api.Expr) api.Prog {
			return prog(append(types(), data(single, api.KCase, whole), data(mixed, api.KRec, listOf(whole), of(single), of(tank)), within(def(30, api.KFun, x.t, body, x.t, whole), x.most, 1))...)
		}
		y := pair(f(a), f(x.body)).sound(t)
		checked(t, what, y, byForms, false)
		checked(t, what, y, split(0, slices.Repeat([]equiv.Proof{byForms}, x.n)...), x.want)
		checked(t, what, y, split(0, slices.Repeat([]equiv.Proof{split(1, byForms, byForms, byForms)}, x.n)...), x.want)
	}
}

// TestLiteralsOfOthers has literals in the place of variables of a slot alone.
func TestLiteralsOfOthers(t *testing.T) {
	a, b := v(3001), v(3002)
	twice := func(e api.Expr) api.Expr { return call(f, e, e) }
	proof := split(0, byForms) // the value of the first slot is 0, that of the second one is not given
	for what, x := range map[string]struct {
		a, b api.Expr
		want bool
	}{
		"the first slot":                          {call(f, a, b), call(f, num(0), b), true},
		"the second slot":                         {call(f, a, b), call(f, a, num(0)), false},
		"both slots":                              {call(f, a, b), call(f, num(0), num(0)), false},
		"the slots exchanged":                     {call(f, a, b), call(f, b, a), false},
		"a let with its ID":                       {let(3001, call(f, a, b), twice(v(3001))), let(50, call(f, num(0), b), twice(v(50))), true},
		"the variable of this let":                {let(3001, call(f, a, b), twice(v(3001))), let(50, call(f, num(0), b), call(f, v(50), num(0))), false},
		"a fold with its ID":                      {fold(3001, list(whole, a), a, call(f, nth(3001, 0), nth(3001, 1))), fold(50, list(whole, num(0)), num(0), call(f, nth(50, 0), nth(50, 1))), true},
		"the variable 0 of this fold":             {fold(3001, list(whole, a), a, call(f, nth(3001, 0), nth(3001, 1))), fold(50, list(whole, num(0)), num(0), call(f, num(0), nth(50, 1))), false},
		"a match with its ID":                     {match(3001, shape, some(a), twice(v(3001)), call(f, a, field(point, 0, nth(3001, 1)))), match(50, shape, some(num(0)), twice(v(50)), call(f, num(0), field(point, 0, nth(50, 1)))), true},
		"the branch of the first case of it":      {match(3001, shape, some(a), twice(v(3001)), call(f, a, field(point, 0, nth(3001, 1)))), match(50, shape, some(num(0)), twice(num(0)), call(f, num(0), field(point, 0, nth(50, 1)))), false},
		"behind a let with its ID":                {call(f, let(3001, call(f, a, b), twice(v(3001))), a), call(f, let(50, call(f, num(0), b), twice(v(50))), num(0)), true},
		"a let with the ID of the second slot":    {let(3002, call(f, a, b), call(f, v(3002), a)), let(50, call(f, num(0), b), call(f, v(50), num(0))), true},
		"deep inside":                             {let(50, twice(b), fold(51, list(whole, b), a, call(f, nth(51, 1), call(f, v(50), a)))), let(50, twice(b), fold(51, list(whole, b), num(0), call(f, nth(51, 1), call(f, v(50), num(0))))), true},
		"what it makes equal":                     {cond(op(api.Less, a, num(1)), b, twice(b)), b, true},
		"what a call makes of it is not known":    {cond(op(api.Less, call(f, a, a), num(1)), b, twice(b)), b, false},
		"what is named only if it is not known":   {cond(op(api.Same, a, num(1)), field(point, 0, rec(point, twice(b), is(0))), b), b, true},
		"the variable of a let that is its value": {let(50, a, call(f, v(50), b)), call(f, num(0), b), true},
	} {
		y := bodies(x.a, x.b, whole, whole)
		y.fuel = 0
		checked(t, what, y.sound(t), proof, x.want)
		checked(t, what, y, byForms, false)
	}
}

// some returns an expression of the type shape with a number, which no step makes simpler.
func some(e api.Expr) api.Expr {
	return cond(op(api.Less, call(f, e, e), num(0)), one(shape, 0, e), one(shape, 1, rec(point, e, is(0))))
}
