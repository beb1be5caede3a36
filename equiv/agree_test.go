package equiv_test

import (
	"reflect"
	"slices"
	"testing"

	"splicery/api"
)

// agree checks whether the two agree by their normal forms, in both orders and by the rule, and that Differ finds no difference then.
func agree(t *testing.T, what string, x two, want bool) {
	t.Helper()
	x.sound(t)
	code := api.OK
	if !want {
		code = api.ErrCheck
	}
	for _, x := range []two{x, x.back()} {
		if e := checkByRule(x, byForms); e != code {
			t.Errorf("%s: by the rule Check of normal forms returns the error %d", what, e)
		}
		if e := x.check(byForms); e != code {
			t.Errorf("P15.3: %s: Check of normal forms returns the error %d, not %d", what, e, code)
		}
		if _, _, e := x.differ(); want && e != api.OK {
			t.Errorf("P15.5: %s: Differ returns the error %d, although the normal forms agree", what, e)
		}
	}
}

// bodies returns the function 30 with two bodies, in two programs with a function f of two numbers.
func bodies(a, b api.Expr, slots ...api.Type) two {
	helper := def(f, api.KFun, whole, op(api.Sub, v(3101), v(3102)), whole, whole)
	with := func(body api.Expr) api.Prog {
		p := with(def(30, api.KFun, whole, body, slots...))
		p.Defs = append(p.Defs, helper, data(24, api.KRec, whole), data(25, api.KCase, whole))
		return p
	}
	return pair(with(a), with(b))
}

// TestNodes compares bodies that differ in one part of one node, or in what does not count.
func TestNodes(t *testing.T) {
	a, b, c, l := v(3001), v(3002), v(3003), v(3004) // Int, Int, Bool, List(Int)
	p, s := v(3005), v(3006)                         // point, shape
	slots := []api.Type{whole, whole, truth, listOf(whole), of(point), of(shape)}
	lesser := func(a, b api.Expr) api.Expr { return cond(op(api.Less, a, b), a, b) }
	truthOf := func(e api.Expr) api.Expr { return cond(e, a, b) }
	equal := func(x, y api.Expr) api.Expr { return cond(op(api.Same, x, y), a, b) }
	made := func(n int, x api.Expr) api.Expr { return let(50, one(shape, n, x), match(51, shape, v(50), a, b)) }
	lists := func(x, y api.Expr) api.Expr { return size(op(api.Join, list(whole, x, y), l)) }
	for what, x := range map[string]struct {
		a, b api.Expr
		want bool
	}{
		"the same variable":                  {a, a, true},
		"another variable":                   {a, b, false},
		"the same number":                    {num(7), num(7), true},
		"another number":                     {num(7), num(8), false},
		"another sign":                       {num(7), num(-7), false},
		"another truth value":                {cond(op(api.Same, c, op(api.Same, p, rec(point, a, is(0)))), a, b), cond(op(api.Same, c, op(api.Same, p, rec(point, a, is(1)))), a, b), false},
		"a number and a variable":            {num(7), a, false},
		"an operation":                       {op(api.Sub, a, b), op(api.Div, a, b), false},
		"operands":                           {op(api.Sub, a, b), op(api.Sub, b, a), false},
		"operands whose order does not do":   {add(a, b), add(b, a), true},
		"the order of a sum of three":        {add(a, add(b, num(1))), add(add(a, b), num(1)), false},
		"a call":                             {call(f, a, b), call(f, a, b), true},
		"the order of a call":                {call(f, a, b), call(f, b, a), false},
		"branches":                           {cond(c, a, b), cond(c, b, a), false},
		"a condition that is not":            {cond(not(c), a, b), cond(c, b, a), false},
		"a condition that is not not":        {cond(not(not(c)), a, b), cond(c, a, b), true},
		"a field":                            {field(point, 0, p), field(point, 0, p), true},
		"another field of a type":            {truthOf(field(point, 1, p)), truthOf(c), false},
		"a field of a record":                {field(point, 0, rec(point, a, c)), a, true},
		"a field of another record":          {field(point, 0, rec(point, a, c)), field(23, 0, rec(23, a)), true},
		"a record":                           {field(point, 0, cond(c, rec(point, a, c), p)), field(point, 0, cond(c, rec(point, a, c), p)), true},
		"another record":                     {field(point, 0, cond(c, rec(point, a, c), p)), field(point, 0, cond(c, rec(point, b, c), p)), false},
		"equal records of another type":      {equal(rec(24, a), rec(24, b)), equal(rec(23, a), rec(23, b)), false},
		"equal records of the same type":     {equal(rec(23, a), rec(23, b)), equal(rec(23, a), rec(23, b)), true},
		"equal cases of another type":        {equal(one(25, 0, a), one(25, 0, b)), equal(one(shape, 0, a), one(shape, 0, b)), false},
		"equal cases of the same type":       {equal(one(25, 0, a), one(25, 0, b)), equal(one(25, 0, a), one(25, 0, b)), true},
		"a case":                             {match(50, shape, cond(c, one(shape, 0, a), s), nth(50, 0), a), match(50, shape, cond(c, one(shape, 0, a), s), nth(50, 0), a), true},
		"another case":                       {match(50, shape, cond(c, one(shape, 0, a), s), a, b), match(50, shape, cond(c, one(shape, 1, p), s), a, b), false},
		"a match of a case that is let":      {made(0, a), made(1, p), false},
		"a match of the other branch":        {match(50, shape, s, a, b), match(50, shape, s, b, a), false},
		"what a branch binds":                {match(50, shape, s, nth(50, 0), field(point, 0, nth(50, 1))), match(50, shape, s, nth(50, 0), field(point, 0, nth(50, 1))), true},
		"what a branch binds and a variable": {match(50, shape, s, nth(50, 0), a), match(50, shape, s, a, a), false},
		"the ID of a match":                  {match(50, shape, s, nth(50, 0), field(point, 0, nth(50, 1))), match(51, shape, s, nth(51, 0), field(point, 0, nth(51, 1))), true},
		"a list":                             {lists(a, b), lists(a, b), true},
		"the order of a list":                {lists(a, b), lists(b, a), false},
		"a longer list":                      {size(list(whole, a, b)), size(list(whole, a, b, b)), false},
		"an empty list and another one":      {size(list(whole)), size(list(whole, a)), false},
		"the type of an empty list":          {size(list(whole)), size(list(truth)), false},
		"the same type of an empty list":     {size(list(listOf(of(shape)))), size(list(listOf(of(shape)))), true},
		"another definition of its type":     {size(list(listOf(of(shape)))), size(list(listOf(of(tank)))), false},
		"the depth of its type":              {size(list(listOf(of(shape)))), size(list(of(shape))), false},
		"a let":                              {let(50, call(f, a, b), add(v(50), v(50))), let(51, call(f, a, b), add(v(51), v(51))), true},
		"a let of a number":                  {let(50, num(7), op(api.Sub, a, v(50))), op(api.Sub, a, num(7)), true},
		"a let that is not used":             {let(50, call(f, a, b), a), a, true},
		"a let and its value":                {let(50, call(f, a, b), v(50)), call(f, a, b), false},
		"the variable of a let":              {let(50, call(f, a, b), lesser(v(50), a)), let(50, call(f, a, b), lesser(v(50), v(50))), false},
		"the variables of two lets":          {let(50, call(f, a, b), let(51, call(f, b, a), op(api.Sub, v(50), v(51)))), let(51, call(f, a, b), let(50, call(f, b, a), op(api.Sub, v(51), v(50)))), true},
		"the other one of two lets":          {let(50, call(f, a, b), let(51, call(f, b, a), op(api.Sub, v(50), v(51)))), let(50, call(f, a, b), let(51, call(f, b, a), op(api.Sub, v(51), v(50)))), false},
		"lets of one ID":                     {let(50, call(f, a, b), let(50, call(f, v(50), a), op(api.Sub, a, v(50)))), let(50, call(f, a, b), let(51, call(f, v(50), a), op(api.Sub, a, v(51)))), true},
		"lets of one ID and the outer one":   {let(50, call(f, a, b), let(50, call(f, b, a), add(num(1), v(50)))), let(50, call(f, a, b), let(51, call(f, b, a), add(num(1), add(v(50), op(api.Sub, v(51), v(51)))))), false},
		"behind a let of one ID":             {let(50, call(f, a, b), call(f, let(50, call(f, b, a), call(f, v(50), v(50))), v(50))), let(50, call(f, a, b), call(f, let(51, call(f, b, a), call(f, v(51), v(51))), v(50))), true},
		"the outer one behind such a let":    {let(50, call(f, a, b), call(f, let(50, call(f, b, a), call(f, v(50), v(50))), v(50))), let(50, call(f, a, b), call(f, let(51, call(f, b, a), call(f, v(51), v(50))), v(50))), false},
		"a fold":                             {fold(50, l, a, op(api.Sub, nth(50, 0), nth(50, 1))), fold(51, l, a, op(api.Sub, nth(51, 0), nth(51, 1))), true},
		"the variables of a fold":            {fold(50, l, a, op(api.Sub, nth(50, 0), nth(50, 1))), fold(50, l, a, op(api.Sub, nth(50, 1), nth(50, 0))), false},
		"the first one of a fold":            {fold(50, l, a, nth(50, 0)), fold(50, l, a, nth(50, 1)), false},
		"the beginning of a fold":            {fold(50, l, a, nth(50, 0)), fold(50, l, b, nth(50, 0)), false},
		"folds in one another":               {fold(50, l, a, fold(51, l, nth(50, 1), call(f, nth(51, 0), nth(50, 0)))), fold(51, l, a, fold(50, l, nth(51, 1), call(f, nth(50, 0), nth(51, 0)))), true},
		"the other one of such folds":        {fold(50, l, a, fold(51, l, nth(50, 1), call(f, nth(51, 0), nth(50, 0)))), fold(50, l, a, fold(51, l, nth(50, 1), call(f, nth(50, 0), nth(51, 0)))), false},
		"a let with the ID of a slot":        {let(3001, call(f, a, b), call(f, v(3001), v(3001))), let(50, call(f, a, b), call(f, v(50), v(50))), true},
		"a slot and a let with its ID":       {let(3001, call(f, a, b), call(f, v(3001), v(3001))), let(50, call(f, a, b), call(f, v(50), a)), false},
		"a slot behind a let with its ID":    {call(f, let(3001, call(f, a, b), call(f, v(3001), v(3001))), a), call(f, let(50, call(f, a, b), call(f, v(50), v(50))), a), true},
		"an operation of numbers":            {add(num(3), num(4)), num(7), true},
		"conditions that are known":          {cond(is(1), a, call(f, a, b)), a, true},
		"deep in it":                         {call(f, let(50, call(f, a, num(1)), cond(c, v(50), fold(51, l, v(50), nth(51, 0)))), a), call(f, let(50, call(f, a, num(1)), cond(c, v(50), fold(51, l, v(50), nth(51, 1)))), a), false},
	} {
		agree(t, what, bodies(x.a, x.b, slots...), x.want)
	}
}

// copyOf returns a copy of a program that shares no memory with it.
func copyOf(p api.Prog) api.Prog { return copied(reflect.ValueOf(p)).Interface().(api.Prog) }

// defOf returns the definition with an ID, so that it can be changed.
func defOf(p api.Prog, n int) *api.Def {
	return &p.Defs[slices.IndexFunc(p.Defs, func(d api.Def) bool { return d.ID == id(n) })]
}

// TestNamed compares a program with itself, where something has been changed in one definition.
func TestNamed(t *testing.T) {
	const g, h, unused, hidden, held, other = 32, 33, 34, 35, 40, 43
	a := v(3001)
	body := cond(is(1), call(g, call(g, a, num(1)), fold(50, list(of(held)), num(2), field(held, 0, nth(50, 0)))), call(hidden, a))
	p := prog(
		def(30, api.KFun, whole, let(51, call(g, a, cond(op(api.Same, one(other, 1, a), one(other, 1, num(2))), num(3), num(4))), add(body, v(51))), whole, listOf(of(point))),
		def(g, api.KFun, whole, op(api.Sub, call(h, rec(42, v(3201), is(0))), v(3202)), whole, whole),
		def(h, api.KConv, whole, field(42, 0, v(3301)), of(42)),
		def(unused, api.KFun, whole, v(3401), whole),
		def(hidden, api.KFun, whole, v(3501), whole),
		data(point, api.KRec, whole, truth),
		data(held, api.KRec, whole, listOf(of(41))), data(41, api.KCase, whole), data(42, api.KRec, whole, truth), data(other, api.KCase, of(44), whole), data(44, api.KRec, whole),
	)
	for what, x := range map[string]struct {
		change func(q api.Prog)
		want   bool
	}{
		"nothing": {func(q api.Prog) {}, true},
		"names": {func(q api.Prog) {
			for i := range q.Defs {
				d := &q.Defs[i]
				d.Name, d.Mod, d.Place, d.Layout = "x", id(7), 9, []string{"#"}
				for j := range d.Slots {
					d.Slots[j].Name, d.Slots[j].Place = "y", 7
				}
			}
		}, true},
		"names of nodes": {func(q api.Prog) { defOf(q, 30).Body.Names[0] = "y" }, true},
		"IDs of nodes":   {func(q api.Prog) { defOf(q, g).Body.ID, defOf(q, 30).Body.Kids[1].ID = id(7), id(8) }, true},
		"the slots of what is called": {func(q api.Prog) {
			*defOf(q, h) = def(h, api.KConv, whole, field(42, 0, v(3301)), of(42))
			defOf(q, h).Slots[0].ID = id(7)
			defOf(q, h).Body.Kids[0].Ref = id(7)
		}, true},
		"two such slots": {func(q api.Prog) { d := defOf(q, g); d.Slots[0].ID, d.Slots[1].ID = d.Slots[1].ID, d.Slots[0].ID }, false},
		"two such slots and variables": {func(q api.Prog) {
			d := defOf(q, g)
			d.Slots[0].ID, d.Slots[1].ID = d.Slots[1].ID, d.Slots[0].ID
			d.Body = op(api.Sub, call(h, rec(42, v(3202), is(0))), v(3201))
		}, true},
		"the bounds":                   {func(q api.Prog) { defOf(q, g).Slots[0].Most, defOf(q, 30).Slots[0].Most = 7, 8 }, true},
		"what is not named":            {func(q api.Prog) { defOf(q, unused).Body = num(7) }, true},
		"what the normal form has not": {func(q api.Prog) { defOf(q, hidden).Body = num(7) }, true},
		"the kind of that":             {func(q api.Prog) { defOf(q, hidden).Kind = api.KConv }, true},
		"the body of what is called":   {func(q api.Prog) { defOf(q, g).Body = num(7) }, false},
		"a body that it calls":         {func(q api.Prog) { defOf(q, h).Body = num(7) }, false},
		"the same body otherwise":      {func(q api.Prog) { defOf(q, h).Body = add(num(0), let(50, v(3301), field(42, 0, v(50)))) }, true},
		"the kind of what is called":   {func(q api.Prog) { defOf(q, h).Kind = api.KFun }, false},
		"a type in a list":             {func(q api.Prog) { defOf(q, held).Slots = append(defOf(q, held).Slots, api.Slot{ID: id(7)}) }, false},
		"a field of it":                {func(q api.Prog) { defOf(q, held).Slots[1].Type = truth }, false},
		"names of its fields":          {func(q api.Prog) { defOf(q, held).Slots[1].Name, defOf(q, held).Slots[1].ID = "z", id(7) }, true},
		"a type to which it leads":     {func(q api.Prog) { defOf(q, 41).Slots[0].Type = truth }, false},
		"the kind of this type":        {func(q api.Prog) { defOf(q, 41).Kind = api.KRec }, false},
		"a slot of this type":          {func(q api.Prog) { defOf(q, 41).Slots = append(defOf(q, 41).Slots, api.Slot{ID: id(7)}) }, false},
		"a further case":               {func(q api.Prog) { defOf(q, other).Slots = append(defOf(q, other).Slots, api.Slot{ID: id(7)}) }, false},
		"another case":                 {func(q api.Prog) { defOf(q, other).Slots[0].Type = whole }, false},
		"what another case holds":      {func(q api.Prog) { defOf(q, 44).Slots[0].Type = truth }, false},
		"the order of fields":          {func(q api.Prog) { d := defOf(q, 42); d.Slots[0].ID, d.Slots[1].ID = d.Slots[1].ID, d.Slots[0].ID }, true},
		"what is called is another": {func(q api.Prog) {
			defOf(q, 30).Body.Kids[0].Ref = id(36)
			q.Defs[slices.IndexFunc(q.Defs, func(d api.Def) bool { return d.ID == id(unused) })] = def(36, api.KFun, whole, op(api.Sub, call(h, rec(42, v(3601), is(0))), v(3602)), whole, whole)
		}, false},
	} {
		q := copyOf(p)
		x.change(q)
		y := pair(p, q)
		y.fuel = 0 // no call returns a value
		agree(t, what, y, x.want)
	}
}
