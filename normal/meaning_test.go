package normal_test

import (
	"math"
	"slices"
	"testing"

	"splicery/api"
	"splicery/normal"
)

// means checks the meaning of a definition: the digest of these numbers.
func means(t *testing.T, what string, p api.Prog, n int, numbers ...int) {
	t.Helper()
	got, e := normal.Meaning(p, id(n))
	if want := digestOf(numbers...); got != want || e != api.OK {
		t.Errorf("P14.3: the meaning of %s is %x (error %d), not %x of %v", what, got, e, want, numbers)
	}
}

// fails checks that a definition has no meaning, since there is an error.
func fails(t *testing.T, what string, p api.Prog, n int, want api.Errno) {
	t.Helper()
	if got, e := normal.Meaning(p, id(n)); got != (api.Digest{}) || e != want {
		t.Errorf("P14.3: the meaning of %s is %x (error %d), not the error %d", what, got, e, want)
	}
	if rule := errorByRule(p, id(n), nil); rule != want {
		t.Errorf("P14.3: by the rule, the error of %s is %d, not %d", what, rule, want)
	}
}

// digits returns the numbers of the meaning of a definition that is a digest of these numbers.
func digits(numbers ...int) []int { return digestNumbers(digestOf(numbers...)) }

func join(l ...[]int) []int { return slices.Concat(l...) }

// TestTypesMean has the meanings of definitions without bodies.
func TestTypesMean(t *testing.T) {
	p := prog(
		data(20, api.KRec, whole, truth),
		data(21, api.KCase, whole, of(20)),
		data(22, api.KRec, listOf(of(21)), listOf(listOf(whole)), of(20)),
		data(23, api.KRec), data(24, api.KCase),
		data(25, api.KRec, whole, truth),
	)
	rec20 := []int{api.KRec, 2, api.TInt, 0, api.TBool, 0}
	means(t, "a record", p, 20, rec20...)
	case21 := join([]int{api.KCase, 2, api.TInt, 0, api.TDef}, digits(rec20...), []int{0})
	means(t, "a variant", p, 21, case21...)
	means(t, "a record of lists", p, 22, join([]int{api.KRec, 3, api.TList, 1, api.TDef}, digits(case21...), []int{0, api.TList, 1, api.TList, 1, api.TInt, 0, api.TDef}, digits(rec20...), []int{0})...)
	means(t, "a record without slots", p, 23, api.KRec, 0)
	means(t, "a variant without slots", p, 24, api.KCase, 0)
	means(t, "a record with the same slots", p, 25, rec20...)
	// What a type has no use for does not belong to its meaning.
	d := data(20, api.KRec, whole, truth)
	d.Result, d.Body, d.Slots[0].Most = of(77), call(78, v(1)), 5
	means(t, "a record with a result, a body and a bound", prog(d), 20, rec20...)
}

// TestBodiesMean has the meanings of definitions with bodies.
func TestBodiesMean(t *testing.T) {
	body := func(kind int, e api.Expr, l ...api.Type) api.Prog { return prog(def(30, kind, truth, e, l...)) }
	for _, kind := range []int{api.KFun, api.KOn, api.KConv} {
		means(t, "a number", body(kind, num(7)), 30, kind, 0, api.TBool, 0, api.NInt, 7, 0)
		p := body(kind, op(api.Sub, v(3001), v(3002)), whole, listOf(truth))
		p.Defs[0].Slots[0].Most = 8 // a bound of a test alone
		means(t, "two slots", p, 30, kind, 2, api.TInt, 0, api.TList, 1, api.TBool, 0, api.TBool, 0, api.NOp, api.Sub, 2, api.NVar, 0, 0, -1, 0, 0, 0, api.NVar, 0, 0, -1, 1, 0, 0)
	}
	p := body(api.KTest, v(3002), whole, truth)
	p.Defs[0].Slots[0].Most, p.Defs[0].Slots[1].Most = 20, 1
	means(t, "a test", p, 30, api.KTest, 2, api.TInt, 0, 20, api.TBool, 0, 1, api.TBool, 0, api.NVar, 0, 0, -1, 1, 0, 0)
	means(t, "a test without slots", body(api.KTest, is(1)), 30, api.KTest, 0, api.TBool, 0, api.NBool, 1, 0)

	// The body has its normal form.
	means(t, "an operation", body(api.KFun, add(num(2), num(3))), 30, api.KFun, 0, api.TBool, 0, api.NInt, 5, 0)
	means(t, "an exchange", body(api.KFun, add(v(3001), num(3)), whole), 30, api.KFun, 1, api.TInt, 0, api.TBool, 0, api.NOp, api.Add, 2, api.NInt, 3, 0, api.NVar, 0, 0, -1, 0, 0, 0)
	// Its operands are in the order of their IDs, not of the places of the slots: 3002 is ahead of 3001.
	if order(id(3002), id(3001)) < 0 {
		t.Fatal("the IDs are in the order of the places")
	}
	q := body(api.KFun, add(v(3001), v(3002)), whole, whole)
	slices.Reverse(q.Defs[0].Slots)
	means(t, "an exchange by IDs", q, 30, api.KFun, 2, api.TInt, 0, api.TInt, 0, api.TBool, 0, api.NOp, api.Add, 2, api.NVar, 0, 0, -1, 1, 0, 0, api.NVar, 0, 0, -1, 0, 0, 0)
}

// TestNodesMean has nodes of all kinds in bodies.
func TestNodesMean(t *testing.T) {
	record, variant, function := data(20, api.KRec, whole), data(21, api.KCase, whole, truth), def(22, api.KFun, whole, v(2201), whole)
	digits20, digits21 := digits(api.KRec, 1, api.TInt, 0), digits(api.KCase, 2, api.TInt, 0, api.TBool, 0)
	digits22 := digits(api.KFun, 1, api.TInt, 0, api.TInt, 0, api.NVar, 0, 0, -1, 0, 0, 0)
	slot := func(n int) []int { return []int{api.NVar, n, 0, -1, 0, 0, 0} }
	bound := func(n, between int) []int { return []int{api.NVar, n, 1, between, 0} }
	called := join([]int{api.NCall, 0}, digits22, []int{1}, slot(0))
	x, c := v(3001), call(22, v(3001))
	for what, x := range map[string]struct {
		e    api.Expr
		want []int
	}{
		"a call":      {c, called},
		"a record":    {rec(20, x), join([]int{api.NRec, 0}, digits20, []int{1}, slot(0))},
		"a field":     {field(20, 0, x), join([]int{api.NField, 0}, digits20, []int{1}, slot(0))},
		"a case":      {one(21, 1, x), join([]int{api.NCase, 1}, digits21, []int{1}, slot(0))},
		"a match":     {match(50, 21, x, nth(50, 0), nth(50, 1)), join([]int{api.NMatch, 0}, digits21, []int{3}, slot(0), bound(0, 0), bound(1, 0))},
		"a condition": {cond(x, num(1), num(2)), join([]int{api.NIf, 0, 3}, slot(0), []int{0, 1, 0, 0, 2, 0})},
		"a let":       {let(50, c, not(v(50))), join([]int{api.NLet, 0, 2}, called, []int{api.NOp, api.Not, 1}, bound(0, 0))},
		"a list":      {list(listOf(of(20)), x), join([]int{api.NList, 0, api.TList, 1, api.TDef}, digits20, []int{0, 1}, slot(0))},
		"no elements": {list(truth), []int{api.NList, 0, api.TBool, 0, 0}},
		"a fold":      {fold(50, x, num(4), op(api.Less, nth(50, 0), nth(50, 1))), join([]int{api.NFold, 0, 3}, slot(0), []int{0, 4, 0, api.NOp, api.Less, 2}, bound(0, 0), bound(1, 0))},
		"a let around all kinds that bind": {let(50, c, let(51, c, fold(52, v(50), v(51), match(53, 21, v(50), v(51), list(whole, v(50), v(51), nth(52, 1), nth(53, 1)))))),
			join([]int{api.NLet, 0, 2}, called, []int{api.NLet, 0, 2}, called, []int{api.NFold, 0, 3}, bound(0, 2), bound(0, 1), []int{api.NMatch, 0}, digits21, []int{3}, bound(0, 3), bound(0, 2), []int{api.NList, 0, api.TInt, 0, 4}, bound(0, 3), bound(0, 2), bound(1, 1), bound(1, 0))},
		"what lets hold":             {let(50, c, let(51, list(whole, v(50)), list(whole, v(50), v(51)))), join([]int{api.NLet, 0, 2}, called, []int{api.NLet, 0, 2, api.NList, 0, 0, 0, 1}, bound(0, 1), []int{api.NList, 0, 0, 0, 2}, bound(0, 1), bound(0, 0))},
		"a match that becomes a let": {match(50, 21, one(21, 1, c), num(1), not(nth(50, 1))), join([]int{api.NLet, 0, 2}, called, []int{api.NOp, api.Not, 1}, bound(0, 0))},
		"a definition that is gone":  {cond(is(1), x, c), slot(0)},
		"a variable of nothing":      {v(77), []int{api.NVar, 0, 0, id(77).Shop, id(77).Seq, id(77).Index, 0}},
	} {
		p := prog(record, variant, function, def(30, api.KFun, of(20), x.e, whole))
		means(t, what, p, 30, join([]int{api.KFun, 1, api.TInt, 0, api.TDef}, digits20, []int{0}, x.want)...)
	}
}

// TestMeaningErrors has definitions that are missing and definitions that depend on themselves.
func TestMeaningErrors(t *testing.T) {
	missing, good := of(77), def(40, api.KFun, whole, v(4001), whole)
	loop := data(41, api.KRec, of(41))
	circle := of(41)
	fun := func(result api.Type, e api.Expr, l ...api.Type) api.Prog {
		return prog(good, loop, data(42, api.KCase, whole), def(43, api.KFun, missing, num(1)), def(30, api.KFun, result, e, l...))
	}
	fails(t, "a definition of none", prog(), 30, api.ErrNone)
	fails(t, "another definition", prog(good), 30, api.ErrNone)
	fails(t, "a record of nothing", prog(data(30, api.KRec, whole, missing)), 30, api.ErrNone)
	fails(t, "a record of a list of nothing", prog(data(30, api.KRec, whole, listOf(listOf(missing)))), 30, api.ErrNone)
	fails(t, "a variant of nothing", prog(data(30, api.KCase, missing)), 30, api.ErrNone)
	fails(t, "a record of itself", prog(data(30, api.KRec, of(30))), 30, api.ErrCycle)
	fails(t, "a record of lists of itself", prog(data(30, api.KRec, listOf(of(30)))), 30, api.ErrCycle)
	fails(t, "a function that calls itself", prog(def(30, api.KFun, whole, call(30, v(3001)), whole)), 30, api.ErrCycle)
	fails(t, "a function that calls one that calls itself", prog(def(30, api.KFun, whole, call(31)), def(31, api.KFun, whole, call(31))), 30, api.ErrCycle)
	fails(t, "two that call each other", prog(def(30, api.KFun, whole, call(31)), def(31, api.KFun, whole, call(30))), 30, api.ErrCycle)
	fails(t, "two that call each other", prog(def(30, api.KFun, whole, call(31)), def(31, api.KFun, whole, call(30))), 31, api.ErrCycle)

	e, no, bad, ok := num(1), call(77), rec(41, num(1)), call(40, num(1))
	for _, x := range []struct {
		what string
		p    api.Prog
		want api.Errno
	}{
		{"a slot", fun(whole, e, whole, missing), api.ErrNone}, {"a result", fun(missing, e), api.ErrNone}, {"a result, a list", fun(listOf(missing), e), api.ErrNone}, {"a body", fun(whole, no), api.ErrNone}, {"a kid", fun(whole, op(api.Sub, ok, no)), api.ErrNone},
		{"a slot", fun(whole, e, circle), api.ErrCycle}, {"a result", fun(circle, e), api.ErrCycle}, {"a body", fun(whole, bad), api.ErrCycle}, {"a kid", fun(whole, cond(is(1), ok, bad)), api.ErrCycle},
		{"a field", fun(whole, field(77, 0, e)), api.ErrNone}, {"a case", fun(whole, one(77, 0, e)), api.ErrNone}, {"a match", fun(whole, match(50, 77, e, e)), api.ErrNone}, {"a list", fun(whole, list(missing)), api.ErrNone}, {"a list of lists", fun(whole, list(listOf(missing))), api.ErrNone}, {"a call with kids", fun(whole, call(77, ok)), api.ErrNone}, {"a record", fun(whole, rec(77)), api.ErrNone},
		// The order: slots, the result, the nodes.
		{"a slot ahead of a slot", fun(whole, e, missing, circle), api.ErrNone}, {"a slot ahead of a slot", fun(whole, e, circle, missing), api.ErrCycle}, {"a slot ahead of the result", fun(missing, e, circle), api.ErrCycle}, {"a slot ahead of the result", fun(circle, e, missing), api.ErrNone},
		{"the result ahead of the body", fun(missing, bad), api.ErrNone}, {"the result ahead of the body", fun(circle, no), api.ErrCycle}, {"a slot ahead of the body", fun(whole, no, circle), api.ErrCycle},
		{"kids in order", fun(whole, op(api.Sub, no, bad)), api.ErrNone}, {"kids in order", fun(whole, op(api.Sub, bad, no)), api.ErrCycle}, {"a node ahead of its kids", fun(whole, call(77, bad)), api.ErrNone}, {"a node ahead of its kids", fun(whole, rec(41, no)), api.ErrCycle},
		{"kids of kids ahead of the next kid", fun(whole, op(api.Sub, not(not(bad)), no)), api.ErrCycle}, {"a list ahead of its kids", fun(whole, list(missing, bad)), api.ErrNone}, {"a list ahead of its kids", fun(whole, list(circle, no)), api.ErrCycle},
		{"a definition as far as it leads ahead of the next one", fun(whole, op(api.Sub, call(43), bad)), api.ErrNone}, {"a definition as far as it leads ahead of the next one", fun(whole, op(api.Sub, call(40, rec(41)), call(43))), api.ErrCycle},
		// What is gone in the normal form counts, too.
		{"another branch", fun(whole, cond(is(1), e, no)), api.ErrNone}, {"another branch", fun(whole, cond(is(1), e, bad)), api.ErrCycle}, {"a let without a variable", fun(whole, let(50, no, e)), api.ErrNone},
	} {
		fails(t, x.what, x.p, 30, x.want)
	}

	// A result or a body of a definition without a body, and types of other nodes than lists, name nothing. Nor do the Ref of other nodes.
	d := data(30, api.KRec, whole)
	d.Result, d.Body = missing, no
	means(t, "a record with a body", prog(d), 30, api.KRec, 1, api.TInt, 0)
	for _, n := range []api.Expr{num(1), v(3001), not(is(1)), add(num(1), v(3001)), cond(v(3001), num(1), num(2)), let(50, v(3001), v(50)), fold(50, v(3001), num(1), nth(50, 1)), call(40, num(1)), rec(42, num(1))} {
		n.Type = missing
		switch n.Kind {
		case api.NInt, api.NOp, api.NIf, api.NLet, api.NFold:
			n.Ref = id(77)
		}
		p := fun(whole, n, whole)
		if got, e := normal.Meaning(p, id(30)); e != api.OK || got != meaningByRule(p, id(30)) {
			t.Errorf("P14.3: the meaning of %s is %x (error %d)", show(n), got, e)
		}
	}
}

// TestTwice has definitions with the same ID, of which the first one counts, and slots with the same ID.
func TestTwice(t *testing.T) {
	p := prog(data(30, api.KRec, whole), data(30, api.KCase, truth), data(31, api.KRec, of(30)))
	means(t, "the first one of two", p, 30, api.KRec, 1, api.TInt, 0)
	means(t, "a record of the first one", p, 31, join([]int{api.KRec, 1, api.TDef}, digits(api.KRec, 1, api.TInt, 0), []int{0})...)
	d := def(30, api.KFun, whole, v(3001), whole, whole)
	d.Slots[1].ID = d.Slots[0].ID
	means(t, "a function with equal slots", prog(d), 30, api.KFun, 2, api.TInt, 0, api.TInt, 0, api.TInt, 0, api.NVar, 0, 0, -1, 0, 0, 0)
}

// TestChanges changes each field of a program: all that belongs to a meaning changes it, and nothing else does (P14.7).
func TestChanges(t *testing.T) {
	build := func() api.Prog {
		f := def(30, api.KFun, whole, let(50, call(31, v(3001)), op(api.Sub, v(50), field(20, 1, v(3002)))), whole, of(20))
		g := def(31, api.KFun, whole, op(api.Mul, v(3101), num(3)), whole)
		g.Body.Kids[1].Names = []string{}
		test := def(32, api.KTest, whole, call(30, v(3201), rec(20, num(1), num(2))), whole)
		return api.Prog{Mods: []api.Mod{{ID: id(90), Name: "m"}}, Defs: []api.Def{data(20, api.KRec, whole, whole), g, f, test}}
	}
	p := build()
	sound(t, p)
	for what, x := range map[string]struct {
		change  func(q *api.Prog)
		changed []int
	}{
		"nothing":                   {func(q *api.Prog) {}, nil},
		"the modules":               {func(q *api.Prog) { q.Mods = nil }, nil},
		"the name of a module":      {func(q *api.Prog) { q.Mods[0].Name = "x" }, nil},
		"uses":                      {func(q *api.Prog) { q.Mods[0].Uses = ids(5) }, nil},
		"the definitions of module": {func(q *api.Prog) { q.Mods[0].Defs = ids(5) }, nil},
		"names":                     {func(q *api.Prog) { q.Defs[1].Name, q.Defs[0].Name = "x", "y" }, nil},
		"moves":                     {func(q *api.Prog) { q.Defs[1].Mod, q.Defs[0].Mod = id(91), id(92) }, nil},
		"places":                    {func(q *api.Prog) { q.Defs[1].Place, q.Defs[0].Place = 9, -9 }, nil},
		"layouts":                   {func(q *api.Prog) { q.Defs[1].Layout, q.Defs[0].Layout = []string{"#"}, []string{""} }, nil},
		"names of slots":            {func(q *api.Prog) { q.Defs[0].Slots[0].Name, q.Defs[1].Slots[0].Name = "x", "y" }, nil},
		"places of slots":           {func(q *api.Prog) { q.Defs[0].Slots[0].Place, q.Defs[1].Slots[0].Place = 7, -7 }, nil},
		"bounds of others":          {func(q *api.Prog) { q.Defs[0].Slots[0].Most, q.Defs[1].Slots[0].Most = 7, 7 }, nil},
		"names of nodes":            {func(q *api.Prog) { q.Defs[2].Body.Names = []string{"z"} }, nil},
		"IDs of nodes":              {func(q *api.Prog) { q.Defs[1].Body.ID, q.Defs[1].Body.Kids[0].ID = id(7), id(7) }, nil},
		"the ID of a let":           {func(q *api.Prog) { q.Defs[2].Body.ID = id(7); q.Defs[2].Body.Kids[1].Kids[0].Ref = id(7) }, nil},
		"the order of definitions":  {func(q *api.Prog) { slices.Reverse(q.Defs) }, nil},
		"the order of operands":     {func(q *api.Prog) { slices.Reverse(q.Defs[1].Body.Kids) }, nil},
		"a body with the same form": {func(q *api.Prog) { q.Defs[1].Body = op(api.Mul, add(num(1), num(2)), add(v(3101), num(0))) }, nil},
		"the ID of a slot":          {func(q *api.Prog) { q.Defs[1].Slots[0].ID = id(7); q.Defs[1].Body.Kids[0].Ref = id(7) }, nil},
		"the ID of a function":      {func(q *api.Prog) { q.Defs[1].ID = id(7); q.Defs[2].Body.Kids[0].Ref = id(7) }, []int{31}},
		"a body":                    {func(q *api.Prog) { q.Defs[1].Body.Kids[1].N = 4 }, []int{30, 31, 32}},
		"another slot":              {func(q *api.Prog) { q.Defs[1].Slots = append(q.Defs[1].Slots, api.Slot{ID: id(7)}) }, []int{30, 31, 32}},
		"a result":                  {func(q *api.Prog) { q.Defs[1].Result = truth }, []int{30, 31, 32}},
		"a kind":                    {func(q *api.Prog) { q.Defs[1].Kind = api.KConv }, []int{30, 31, 32}},
		"the type of a slot":        {func(q *api.Prog) { q.Defs[0].Slots[0].Type = truth }, []int{20, 30, 32}},
		"the kind of a type":        {func(q *api.Prog) { q.Defs[0].Kind = api.KCase }, []int{20, 30, 32}},
		"a field":                   {func(q *api.Prog) { q.Defs[2].Body.Kids[1].Kids[1].N = 0 }, []int{30, 32}},
		"a bound of the test":       {func(q *api.Prog) { q.Defs[3].Slots[0].Most = 1 }, []int{32}},
		"the body of the test":      {func(q *api.Prog) { q.Defs[3].Body = num(math.MaxInt) }, []int{32}},
	} {
		q := build()
		x.change(&q)
		for _, d := range p.Defs {
			a, e := normal.Meaning(p, d.ID)
			b, _ := normal.Meaning(q, d.ID)
			n := slices.IndexFunc([]int{20, 30, 31, 32}, func(n int) bool { return id(n) == d.ID })
			changes := slices.Contains(x.changed, []int{20, 30, 31, 32}[n])
			if (a != b) != changes || e != api.OK {
				t.Errorf("P14.7: %s: the meaning of %v changes from %x to %x (error %d)", what, d.ID, a, b, e)
			}
		}
	}
}
