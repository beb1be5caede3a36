package equiv_test

import (
	"math"
	"testing"

	"splicery/api"
)

// The definitions of the tests: types and a function.
const (
	point, shape, tank, f = 20, 21, 22, 31
)

// types are sound definitions of types: point (Int, Bool), shape (Int, point) and tank (List(shape)), and one that nothing names.
func types() []api.Def {
	return []api.Def{data(point, api.KRec, whole, truth), data(shape, api.KCase, whole, of(point)), data(tank, api.KRec, listOf(of(shape))), data(23, api.KRec, whole)}
}

// with returns a program with definitions and the types, where other definitions are in the place of those with the same ID.
func with(d api.Def, others ...api.Def) api.Prog {
	p := prog(d)
	for _, x := range types() {
		for _, y := range others {
			if x.ID == y.ID {
				x = y
			}
		}
		p.Defs = append(p.Defs, x)
	}
	return p
}

// constant returns the function 30, which returns a number, with these types of slots.
func constant(n int, l ...api.Type) api.Def { return def(30, api.KFun, whole, num(n), l...) }

// TestNone has definitions that are missing, or types.
func TestNone(t *testing.T) {
	p, q := with(constant(1, whole)), with(constant(1, whole, truth))
	for what, ids := range map[string][2]int{
		"the first one is missing": {77, 30}, "the second one is missing": {30, 77}, "both are missing": {77, 77},
		"the first one is a record": {point, 30}, "the second one is a record": {30, point}, "both are the same record": {point, point},
		"the first one is a variant": {shape, 30}, "the second one is a variant": {30, shape}, "both are the same variant": {shape, shape},
		"a node": {30000, 30}, "a slot": {3001, 3001}, "a missing one and a record": {77, point},
	} {
		two{p, id(ids[0]), q, id(ids[1]), 100}.sound(t).fails(t, what, api.ErrNone)
	}
	two{api.Prog{}, id(30), q, id(30), 100}.fails(t, "the first program is empty", api.ErrNone)
	two{p, id(30), api.Prog{}, id(30), 100}.fails(t, "the second program is empty", api.ErrNone)
	two{}.fails(t, "both programs are empty", api.ErrNone)
}

// TestKinds compares definitions of all kinds with bodies.
func TestKinds(t *testing.T) {
	result := data(24, api.KRec, whole, listOf(whole), whole)
	events := data(25, api.KCase, whole)
	body := rec(24, v(3001), list(whole), num(0))
	var all []api.Prog
	for _, kind := range []int{api.KFun, api.KOn, api.KTest} {
		all = append(all, prog(within(def(30, kind, of(24), body, whole, of(25)), 1, 1), result, events))
	}
	for _, p := range all {
		for _, q := range all {
			pair(p, q).sound(t).equal(t, "definitions of two kinds", true)
		}
	}
	conv, fun := with(def(30, api.KConv, of(point), v(3001), of(point))), with(def(30, api.KFun, of(point), v(3001), of(point)))
	pair(conv, fun).sound(t).equal(t, "a converter and a function", true)
	pair(fun, conv).equal(t, "a function and a converter", true)
	pair(conv, all[1]).sound(t).fails(t, "a converter and a handler", api.ErrType)
}

// TestType has definitions that cannot be compared, and some that can.
func TestType(t *testing.T) {
	for what, x := range map[string]struct {
		p, q api.Prog
		ok   bool
	}{
		"no slots and one":            {with(constant(1)), with(constant(1, whole)), false},
		"one slot and two":            {with(constant(1, whole)), with(constant(1, whole, whole)), false},
		"two slots and one":           {with(constant(1, whole, whole)), with(constant(1, whole)), false},
		"a number and a truth value":  {with(constant(1, whole)), with(constant(1, truth)), false},
		"the last slot":               {with(constant(1, whole, whole, truth)), with(constant(1, whole, whole, whole)), false},
		"slots in another order":      {with(constant(1, whole, truth)), with(constant(1, truth, whole)), false},
		"a list and its element":      {with(constant(1, listOf(whole))), with(constant(1, whole)), false},
		"elements of lists":           {with(constant(1, listOf(whole))), with(constant(1, listOf(truth))), false},
		"equal records by other IDs":  {with(constant(1, of(23))), prog(constant(1, of(24)), data(24, api.KRec, whole)), false},
		"a record":                    {with(constant(1, of(point))), with(constant(1, of(point))), true},
		"a record with a slot more":   {with(constant(1, of(point))), with(constant(1, of(point)), data(point, api.KRec, whole, truth, whole)), false},
		"a record with one less":      {with(constant(1, of(point))), with(constant(1, of(point)), data(point, api.KRec, whole)), false},
		"a record of other types":     {with(constant(1, of(point))), with(constant(1, of(point)), data(point, api.KRec, whole, whole)), false},
		"a record and a variant":      {with(constant(1, of(point))), with(constant(1, of(point)), data(point, api.KCase, whole, truth)), false},
		"the order of fields":         {with(constant(1, of(point))), with(constant(1, of(point)), data(point, api.KRec, truth, whole)), false},
		"by a variant":                {with(constant(1, of(shape))), with(constant(1, of(shape)), data(point, api.KRec, whole, truth, whole)), false},
		"by a list":                   {with(constant(1, listOf(of(point)))), with(constant(1, listOf(of(point))), data(point, api.KRec, truth, truth)), false},
		"by lists and a variant":      {with(constant(1, whole, listOf(of(tank)))), with(constant(1, whole, listOf(of(tank))), data(point, api.KRec, whole)), false},
		"by lists, the variant":       {with(constant(1, listOf(of(tank)))), with(constant(1, listOf(of(tank))), data(shape, api.KCase, whole)), false},
		"another type of no slot":     {with(constant(1, of(tank))), with(constant(1, of(tank)), data(23, api.KCase, truth, truth)), true},
		"one more definition":         {with(constant(1, of(tank))), prog(append(with(constant(1, of(tank))).Defs, constant(1))...), true},
		"a type is missing for none":  {with(constant(1, of(point))), prog(constant(1, of(point)), types()[0]), true},
		"the type of a type differs":  {with(constant(1, of(tank))), with(constant(1, of(tank)), data(tank, api.KRec, listOf(of(point)))), false},
		"a type that the body has":    {with(def(30, api.KFun, whole, field(23, 0, rec(23, v(3001))), whole)), with(def(30, api.KFun, whole, v(3001), whole), data(23, api.KRec, truth)), true},
		"a result of another type":    {with(constant(1, whole)), with(def(30, api.KFun, whole, num(1), whole)), true},
		"slots without and with Most": {with(constant(1, truth)), with(within(constant(1, truth), 64)), true},
	} {
		for _, y := range []two{pair(x.p, x.q), pair(x.q, x.p)} {
			y.sound(t)
			if e := comparableByRule(y); (e == api.OK) != x.ok {
				t.Errorf("%s: by the rule the error is %d", what, e)
			}
			if x.ok {
				y.equal(t, what, true)
				continue
			}
			y.fails(t, what, api.ErrType)
			for _, l := range [][]api.Value{nil, numbers(0), numbers(0, 0), {fact(0)}, {record(number(0), fact(0))}} {
				if y.witness(l) {
					t.Errorf("P15.4: %s: %+v is a witness", what, l)
				}
			}
		}
	}
}

// TestInputs has the errors of the inputs, which are those of the first definition.
func TestInputs(t *testing.T) {
	for what, x := range map[string]struct {
		types []api.Type
		most  []int
		want  api.Errno
	}{
		"no slots":                     {nil, nil, api.OK},
		"a number up to 64":            {[]api.Type{whole}, []int{64}, api.OK},
		"a number up to 65":            {[]api.Type{whole}, []int{65}, api.ErrArg},
		"a number up to -1":            {[]api.Type{whole}, []int{-1}, api.ErrArg},
		"the greatest bound":           {[]api.Type{truth}, []int{math.MaxInt}, api.ErrArg},
		"the least bound":              {[]api.Type{truth}, []int{math.MinInt}, api.ErrArg},
		"the bound of the second slot": {[]api.Type{truth, truth}, []int{0, 65}, api.ErrArg},
		"4225 inputs":                  {[]api.Type{whole, whole, truth}, []int{32, 32, 0}, api.ErrLimit},
		"3969 inputs":                  {[]api.Type{whole, whole}, []int{31, 31}, api.OK},
		"4096 inputs":                  {[]api.Type{truth, truth, truth, truth, truth, truth, truth, truth, truth, truth, truth, truth}, make([]int, 12), api.OK},
		"12288 inputs":                 {[]api.Type{truth, truth, truth, truth, truth, truth, truth, truth, truth, truth, truth, truth, whole}, append(make([]int, 12), 1), api.ErrLimit},
		"lists of numbers up to 64":    {[]api.Type{listOf(whole)}, []int{64}, api.ErrLimit},
		"ErrLimit first":               {[]api.Type{listOf(whole), whole}, []int{64, 65}, api.ErrLimit},
		"ErrArg first":                 {[]api.Type{whole, listOf(whole)}, []int{65, 64}, api.ErrArg},
	} {
		// They agree, or differ on all inputs, or are equal on all, although they do not agree.
		for _, n := range []int{1, 2, 3} {
			p, q := with(within(constant(1, x.types...), x.most...)), with(constant(n, x.types...))
			if n == 3 {
				q = with(def(30, api.KFun, whole, size(list(whole, num(0))), x.types...))
			}
			y := pair(p, q).sound(t)
			switch {
			case x.want != api.OK:
				y.fails(t, what, x.want)
				if n == 1 {
					y.back().equal(t, what+" for the second one", true)
				}
			case n == 1:
				y.equal(t, what, true)
			case n == 2:
				inputs, _ := inputsByRule(y)
				y.differs(t, what, inputs[0]...)
			default:
				y.equal(t, what, false)
			}
			// For a witness the domain does not matter.
			var l []api.Value
			for _, s := range x.types {
				l = append(l, map[int]api.Value{api.TInt: number(api.MaxInt), api.TBool: fact(1), api.TList: several()}[s.Kind])
			}
			if got := y.witness(l); got != (n == 2) {
				t.Errorf("P15.4: %s: that %+v is a witness is %v", what, l, got)
			}
		}
	}
}

// TestOrderOfErrors has definitions with several errors.
func TestOrderOfErrors(t *testing.T) {
	wide := within(constant(1, whole), 65)
	other := within(constant(2, whole), 65)
	two{with(wide), id(30), with(other), id(77), 9}.fails(t, "ErrNone and the bound", api.ErrNone)
	two{with(wide), id(30), with(constant(1, truth)), id(point), 9}.fails(t, "ErrNone and the types", api.ErrNone)
	pair(with(wide), with(constant(2, truth))).fails(t, "ErrType and the bound", api.ErrType)
	pair(with(within(constant(1, listOf(of(point))), 64)), with(constant(2, listOf(of(point))), data(point, api.KRec, whole))).fails(t, "ErrType and the number of inputs", api.ErrType)
	pair(with(wide), with(other)).fails(t, "the bound and ErrDiffer", api.ErrArg)
	pair(with(within(constant(1, listOf(whole)), 64)), with(constant(2, listOf(whole)))).fails(t, "the number of inputs and ErrDiffer", api.ErrLimit)
}

// TestFirst has definitions of a program with two of the same ID: the first one counts.
func TestFirst(t *testing.T) {
	first, second := constant(1, whole), constant(2, truth)
	p, q := prog(append(with(first).Defs, second)...), with(first)
	pair(p, q).equal(t, "the first one", true)
	pair(q, p).equal(t, "the first one", true)
	helpers := prog(def(30, api.KFun, whole, call(f)), def(f, api.KFun, whole, num(1)), def(f, api.KFun, whole, num(2)))
	pair(helpers, with(constant(1))).equal(t, "the first one that is called", false)
	pair(with(constant(2)), helpers).differs(t, "the second one that would be called")
}
