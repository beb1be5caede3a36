package normal_test

import (
	"slices"
	"testing"

	"splicery/api"
	"splicery/normal"
)

const levels = 1 << 16

// at returns the ID of a level, or of a definition.
func at(i int) api.ID { return api.ID{Shop: 3, Seq: i} }

// name returns a variable of the node of a level.
func name(i, n int) api.Expr { return api.Expr{Kind: api.NVar, Ref: at(i), N: n} }

// deep returns an expression of many levels, each of which a function makes of the one below it, around another one. The levels have numbers from 1, the outermost one, on.
func deep(e api.Expr, level func(i int, e api.Expr) api.Expr) api.Expr {
	for i := levels; i > 0; i-- {
		e = level(i, e)
		e.ID = at(i)
	}
	return e
}

// TestDeep has expressions of 2^16 levels of each kind that has kids, and of each step.
func TestDeep(t *testing.T) {
	for _, x := range []struct {
		what  string
		inner api.Expr
		level func(i int, e api.Expr) api.Expr
		nodes int // of the normal form
	}{
		{"nots", v(1), func(i int, e api.Expr) api.Expr { return not(e) }, 1},
		{"sums", v(1), func(i int, e api.Expr) api.Expr { return add(e, v(1)) }, 2*levels + 1},
		{"sums in the second place", v(1), func(i int, e api.Expr) api.Expr { return add(v(1), e) }, 2*levels + 1},
		{"sums with numbers", v(1), func(i int, e api.Expr) api.Expr { return add(e, num(1)) }, 2*levels + 1},
		{"sums with calls", v(1), func(i int, e api.Expr) api.Expr { return add(e, call(f)) }, 2*levels + 1},
		{"sums of equal sums", v(1), func(i int, e api.Expr) api.Expr { return add(e, add(v(2), v(1))) }, 4*levels + 1},
		{"sums of numbers", num(1), func(i int, e api.Expr) api.Expr { return add(e, num(1)) }, 1},
		{"sums with 0", v(1), func(i int, e api.Expr) api.Expr { return add(e, num(0)) }, 1},
		{"differences", v(1), func(i int, e api.Expr) api.Expr { return op(api.Sub, e, num(1)) }, 2*levels + 1},
		{"products with 1", v(1), func(i int, e api.Expr) api.Expr { return op(api.Mul, num(1), e) }, 1},
		{"truth values", v(1), func(i int, e api.Expr) api.Expr { return op(api.And, op(api.Or, e, is(0)), is(1)) }, 1},
		{"calls", v(1), func(i int, e api.Expr) api.Expr { return call(f, e) }, levels + 1},
		{"conditions", v(1), func(i int, e api.Expr) api.Expr { return cond(e, is(0), is(1)) }, 3*levels + 1},
		{"conditions that are known", is(1), func(i int, e api.Expr) api.Expr { return cond(e, is(1), call(f)) }, 1},
		{"branches", v(1), func(i int, e api.Expr) api.Expr { return cond(is(i%2), e, e) }, 1},
		{"branches with one of them", v(1), func(i int, e api.Expr) api.Expr { return cond(v(2), e, v(2)) }, 3*levels + 1},
		{"equal branches", v(1), func(i int, e api.Expr) api.Expr { return cond(v(2), e, v(1)) }, 1},
		{"lets of numbers", name(1, 0), func(i int, e api.Expr) api.Expr { return let(0, num(i), e) }, 1},
		{"lets of variables", name(levels, 0), func(i int, e api.Expr) api.Expr { return let(0, name(i-1, 0), e) }, 1},
		{"lets of calls", name(levels, 0), func(i int, e api.Expr) api.Expr { return let(0, call(f, name(i-1, 0)), e) }, 3*levels + 1},
		{"lets without variables", v(1), func(i int, e api.Expr) api.Expr { return let(0, call(f), e) }, 1},
		{"lets whose variables go", v(1), func(i int, e api.Expr) api.Expr { return let(0, call(f, name(i-1, 0)), e) }, 1},
		{"lets that become numbers", name(levels, 0), func(i int, e api.Expr) api.Expr {
			if i == 1 {
				return let(0, num(1), e)
			}
			return let(0, add(name(i-1, 0), num(1)), e)
		}, 1},
		{"lets with variables at once", v(1), func(i int, e api.Expr) api.Expr { return let(0, v(2), add(name(i, 0), e)) }, 2*levels + 1},
		{"values of lets", num(1), func(i int, e api.Expr) api.Expr { return let(0, e, call(f, name(i, 0))) }, 3*levels - 1},
		{"fields", v(1), func(i int, e api.Expr) api.Expr { return field(point, 1, rec(point, call(f), e)) }, 1},
		{"fields of variables", v(1), func(i int, e api.Expr) api.Expr { return field(point, 1, e) }, levels + 1},
		{"matches", v(1), func(i int, e api.Expr) api.Expr { return match(0, shape, one(shape, 1, e), num(6), name(i, 1)) }, 1},
		{"matches of variables", v(1), func(i int, e api.Expr) api.Expr { return match(0, shape, e, num(6), name(i, 1)) }, 3*levels + 1},
		{"branches of matches", name(7, 1), func(i int, e api.Expr) api.Expr { return match(0, shape, one(shape, 1, num(i)), num(6), e) }, 1},
		{"branches of matches of calls", v(1), func(i int, e api.Expr) api.Expr {
			return match(0, shape, one(shape, 1, call(f)), num(6), add(name(i, 1), e))
		}, 4*levels + 1},
		{"lists", v(1), func(i int, e api.Expr) api.Expr { return list(whole, e, num(6)) }, 2*levels + 1},
		{"folds", v(1), func(i int, e api.Expr) api.Expr { return fold(0, e, v(2), name(i, 1)) }, 3*levels + 1},
		{"steps of folds", v(1), func(i int, e api.Expr) api.Expr { return fold(0, v(1), v(2), call(f, name(1, 1), e)) }, 5*levels + 1},
	} {
		if x.what == "branches" { // of which there would be too many
			x.level = func(i int, e api.Expr) api.Expr {
				kids := []api.Expr{is(i % 2), call(f), e}
				kids[1+(i+1)%2], kids[1+i%2] = e, call(f)
				return cond(kids...)
			}
		}
		t.Run(x.what, func(t *testing.T) {
			t.Parallel()
			deepLevels(t, deep(x.inner, x.level), x.nodes)
		})
	}
}

// deepLevels checks an expression of many levels, whose normal form has so many nodes.
func deepLevels(t *testing.T, e api.Expr, want int) {
	got := normal.Expr(api.Prog{}, e)
	if nodes(got) != want {
		t.Errorf("P14.1: of many levels the normal form has %d nodes, not %d", nodes(got), want)
	}
	with := func(e api.Expr) api.Prog {
		return prog(api.Def{ID: id(30), Kind: api.KFun, Body: e}, data(point, api.KRec, whole), data(shape, api.KCase, whole), def(f, api.KFun, whole, num(1)))
	}
	p := with(e)
	if want == 1 && !normal.Same(p, e, p, got) {
		t.Error("P14.2: many levels are not the same as their normal form")
	}
	a, code := normal.Meaning(p, id(30))
	if b, _ := normal.Meaning(with(got), id(30)); code != api.OK || a != b {
		t.Errorf("P14.3: the meaning of many levels is %x (error %d), with their normal form %x", a, code, b)
	}
	if cone := normal.Cone(p, id(30)); len(cone) < 1 || len(cone) > 3 {
		t.Errorf("P14.4: the cone of many levels is %v", cone)
	}
}

// TestDeepTypes has types of many levels.
func TestDeepTypes(t *testing.T) {
	nest := func(inner api.Type) api.Type {
		for range levels {
			inner = listOf(inner)
		}
		return inner
	}
	ofType := func(inner ...int) []int { // what is written for such a type
		return join(slices.Repeat([]int{api.TList, 1}, levels), inner)
	}
	a, b := list(nest(whole), v(1)), list(nest(truth), v(1))
	for what, x := range map[string][2]api.Expr{
		"lists that differ": {add(size(b), size(a)), add(size(a), size(b))},
		"equal lists":       {cond(v(1), a, list(nest(whole), add(v(1), num(0)))), a},
	} {
		if got := normal.Expr(api.Prog{}, x[0]); !alike(got, x[1]) {
			t.Errorf("P14.1: %s of types of many levels: %s becomes %s", what, show(x[0]), show(got))
		}
	}
	p := prog(data(20, api.KRec, nest(of(21))), data(21, api.KRec, whole), def(30, api.KFun, nest(of(20)), list(nest(of(21)))), data(22, api.KRec, nest(of(23))))
	digits21 := digits(api.KRec, 1, api.TInt, 0)
	in21 := ofType(join([]int{api.TDef}, digits21, []int{0})...)
	rec20 := join([]int{api.KRec, 1}, in21)
	means(t, "a record of a type of many levels", p, 20, rec20...)
	means(t, "a function with a type of many levels", p, 30, join([]int{api.KFun, 0}, ofType(join([]int{api.TDef}, digits(rec20...), []int{0})...), []int{api.NList, 0}, in21, []int{0})...)
	fails(t, "a type of many levels of nothing", p, 22, api.ErrNone)
	for n, want := range map[int]int{20: 2, 21: 1, 30: 3, 22: 1} {
		if cone := normal.Cone(p, id(n)); len(cone) != want {
			t.Errorf("P14.4: the cone of types of many levels has %d elements, not %d", len(cone), want)
		}
	}
}

// TestMany has many definitions, each of which names those before it, and many nodes side by side.
func TestMany(t *testing.T) {
	// Each record has two of the one before it, so that there are more ways to the first one than can be walked.
	var p api.Prog
	of := func(i int) api.Type { return api.Type{Kind: api.TDef, Def: at(i)} }
	for i := range levels {
		d := api.Def{ID: at(i), Kind: api.KRec}
		if i > 0 {
			d.Slots = []api.Slot{{Type: of(i - 1)}, {Type: listOf(of(i - 1))}}
		}
		p.Defs = append(p.Defs, d)
	}
	body := let(0, api.Expr{Kind: api.NRec, Ref: at(levels - 1), Kids: []api.Expr{v(1), v(1)}}, v(0))
	p.Defs = append(p.Defs, api.Def{ID: id(30), Kind: api.KFun, Body: body})
	numbers := []int{api.KRec, 0}
	for range levels - 1 {
		x := digits(numbers...)
		numbers = join([]int{api.KRec, 2, api.TDef}, x, []int{0, api.TList, 1, api.TDef}, x, []int{0})
	}
	got, e := normal.Meaning(p, at(levels-1))
	if e != api.OK || got != digestOf(numbers...) {
		t.Errorf("P14.3: the meaning of the last one of many records is %x (error %d)", got, e)
	}
	if _, e := normal.Meaning(p, id(30)); e != api.OK {
		t.Errorf("P14.3: the meaning of a function of many records has the error %d", e)
	}
	if !normal.Same(p, body, p, body) {
		t.Error("P14.2: an expression with many records is not the same as itself")
	}
	cone := normal.Cone(p, id(30))
	if len(cone) != levels+1 || !slices.IsSortedFunc(cone, order) {
		t.Errorf("P14.4: the cone of a function of many records has %d elements", len(cone))
	}
	p.Defs[0].Slots = []api.Slot{{Type: of(levels - 1)}}
	if _, e := normal.Meaning(p, at(levels-1)); e != api.ErrCycle {
		t.Errorf("P14.3: the meaning of the last one of a circle of many records has the error %d", e)
	}
	if !normal.Same(p, body, p, body) || len(normal.Cone(p, at(5))) != levels {
		t.Error("P14.4: the cone in a circle of many records is not all of it")
	}
	p.Defs = p.Defs[1:]
	if _, e := normal.Meaning(p, at(levels-1)); e != api.ErrNone {
		t.Errorf("P14.3: the meaning of the last one of many records without the first one has the error %d", e)
	}

	// A chain of calls, and one list of all of them.
	p = api.Prog{}
	all := list(whole)
	for i := range levels {
		d := api.Def{ID: at(i), Kind: api.KFun, Body: num(i)}
		if i > 0 {
			d.Body = api.Expr{Kind: api.NCall, Ref: at(i - 1)}
		}
		p.Defs = append(p.Defs, d)
		all.Kids = append(all.Kids, api.Expr{Kind: api.NCall, Ref: at(levels - 1 - i)})
	}
	p.Defs = append(p.Defs, api.Def{ID: id(30), Kind: api.KFun, Body: all})
	if _, e := normal.Meaning(p, id(30)); e != api.OK {
		t.Errorf("P14.3: the meaning of a list of many calls has the error %d", e)
	}
	if cone := normal.Cone(p, id(30)); len(cone) != levels+1 {
		t.Errorf("P14.4: the cone of a list of many calls has %d elements", len(cone))
	}

	// Lets around a list of their variables.
	wide := list(whole)
	for i := range levels {
		wide.Kids = append(wide.Kids, name(i+1, 0))
	}
	lets := deep(wide, func(i int, e api.Expr) api.Expr { return let(0, num(i), e) })
	got2 := normal.Expr(api.Prog{}, lets)
	for i := range got2.Kids {
		if x := got2.Kids[i]; x.Kind != api.NInt || x.N != i+1 {
			t.Fatalf("P14.1: the variable %d of many lets becomes %s", i, show(x))
		}
	}
	if len(got2.Kids) != levels {
		t.Errorf("P14.1: of %d variables %d are left", levels, len(got2.Kids))
	}
}
