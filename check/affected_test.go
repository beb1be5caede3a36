package check_test

import (
	"math"
	"slices"
	"testing"

	"splicery/api"
	"splicery/check"
)

// ids returns IDs with these indices.
func ids(l ...int) []api.ID {
	var all []api.ID
	for _, n := range l {
		all = append(all, id(n))
	}
	return all
}

// affects checks which definitions of q are affected, and that Again examines just these.
func affects(t *testing.T, what string, p, q api.Prog, want ...int) {
	t.Helper()
	if got := check.Affected(p, q); !slices.Equal(got, ids(want...)) {
		t.Errorf("P10.3: %s: Affected returns %v, not %v", what, got, want)
	}
	examined := 0
	for _, d := range q.Defs {
		if slices.Contains(ids(want...), d.ID) {
			examined++
		}
	}
	if l, n := check.Again(p, q, check.All(p)); !same(l, check.All(q)) || n != examined {
		t.Errorf("P10.5: %s: Again returns %+v and %d, not %+v and %d", what, l, n, check.All(q), examined)
	}
}

// change returns the world with another definition n, and one that it has from the change of a function.
func change(n int, f func(d *api.Def)) api.Prog {
	d := get(n)
	f(&d)
	return with(d)
}

// users has the definitions of the world that name each of them, and itself.
var users = map[int][]int{
	recP: {recP, caseE, recR, funF, onO, testT, convC}, caseE: {caseE, onO}, recR: {recR, onO}, funF: {funF, testT}, onO: {onO}, testT: {testT}, convC: {convC},
}

// TestSignature changes each part of a signature of each definition: those that name it are affected.
func TestSignature(t *testing.T) {
	for n, l := range users {
		for what, f := range map[string]func(d *api.Def){
			"the kind":                       func(d *api.Def) { d.Kind = (d.Kind + 1) % (api.KConv + 1) },
			"a kind that does not exist":     func(d *api.Def) { d.Kind = math.MinInt },
			"the ID of a slot":               func(d *api.Def) { d.Slots[0].ID = id(9000) },
			"the Shop of the ID of a slot":   func(d *api.Def) { d.Slots[0].ID.Shop++ },
			"the Seq of the ID of a slot":    func(d *api.Def) { d.Slots[0].ID.Seq-- },
			"the kind of the type of a slot": func(d *api.Def) { last(*d).Type.Kind++ },
			"the Def of the type of a slot":  func(d *api.Def) { last(*d).Type.Def = id(none) },
			"the Kids of the type of a slot": func(d *api.Def) { last(*d).Type.Kids = []api.Type{whole, whole} },
			"the order of slots":             func(d *api.Def) { d.Slots = append(d.Slots[1:], d.Slots[0], d.Slots[0]) },
			"one slot less":                  func(d *api.Def) { d.Slots = d.Slots[1:] },
			"one slot more":                  func(d *api.Def) { d.Slots = append(d.Slots, api.Slot{}) },
			"no slots":                       func(d *api.Def) { d.Slots = nil },
			"the kind of the result":         func(d *api.Def) { d.Result.Kind = -1 },
			"the Def of the result":          func(d *api.Def) { d.Result.Def.Index++ },
			"the Kids of the result":         func(d *api.Def) { d.Result.Kids = []api.Type{listOf(whole)} },
		} {
			affects(t, what, world(), change(n, f), l...)
			affects(t, what+", back", change(n, f), world(), l...)
			affects(t, what+", the same", change(n, f), change(n, f))
		}
	}
	swapped := func(d *api.Def) { d.Slots[0], d.Slots[1] = d.Slots[1], d.Slots[0] }
	affects(t, "two slots in another order", world(), change(recP, swapped), users[recP]...)
	affects(t, "slots with two IDs in another order", world(), change(recP, func(d *api.Def) { d.Slots[0].ID, d.Slots[1].ID = d.Slots[1].ID, d.Slots[0].ID }), users[recP]...)
	affects(t, "a type deep in a list", change(funF, func(d *api.Def) { d.Result = listOf(listOf(of(recP))) }), change(funF, func(d *api.Def) { d.Result = listOf(listOf(of(caseE))) }), funF, testT)
}

// TestInside changes what belongs to the inside, but not to the signature: the definition alone is affected.
func TestInside(t *testing.T) {
	for n := recP; n <= convC; n++ {
		for _, most := range []int{-1, 1, 65, math.MinInt} {
			affects(t, "the Most of a slot", world(), change(n, func(d *api.Def) { last(*d).Most = most }), n)
			affects(t, "the Most of the first slot", world(), change(n, func(d *api.Def) { d.Slots[0].Most += most }), n)
		}
	}
	for what, f := range map[string]func(e *api.Expr){
		"the kind":                   func(e *api.Expr) { e.Kind++ },
		"the number":                 func(e *api.Expr) { e.N-- },
		"the Ref":                    func(e *api.Expr) { e.Ref.Seq++ },
		"the ID":                     func(e *api.Expr) { e.ID.Shop++ },
		"the kind of the type":       func(e *api.Expr) { e.Type.Kind = 7 },
		"the Def of the type":        func(e *api.Expr) { e.Type.Def = id(recP) },
		"the Kids of the type":       func(e *api.Expr) { e.Type.Kids = []api.Type{whole} },
		"one kid more":               func(e *api.Expr) { e.Kids = append(slices.Clone(e.Kids), num(9000)) },
		"one kid in front":           func(e *api.Expr) { e.Kids = append([]api.Expr{num(9000)}, e.Kids...) },
		"another one in its place":   func(e *api.Expr) { *e = node(9000, api.NLet, 0, 0, num(9001), *e) },
		"the last kid taken away":    func(e *api.Expr) { e.Kids = e.Kids[:max(len(e.Kids)-1, 0)] },
		"the kids in another order":  func(e *api.Expr) { slices.Reverse(e.Kids) },
		"an empty node in its place": func(e *api.Expr) { *e = api.Expr{} },
	} {
		for n := funF; n <= convC; n++ {
			for _, path := range paths(get(n).Body) {
				d := get(n)
				x := at(&d.Body, path)
				if f(x); sameExpr(d.Body, get(n).Body) {
					continue
				}
				affects(t, what+" of a node", world(), with(d), n)
				affects(t, what+" of a node, back", with(d), world(), n)
			}
		}
	}
}

// paths returns the places of the kids on the way to each node of an expression.
func paths(e api.Expr) [][]int {
	l := [][]int{nil}
	for i, kid := range e.Kids {
		for _, path := range paths(kid) {
			l = append(l, append([]int{i}, path...))
		}
	}
	return l
}

// at returns the node at the end of a path.
func at(e *api.Expr, path []int) *api.Expr {
	for _, i := range path {
		e = &e.Kids[i]
	}
	return e
}

// sameExpr reports whether two expressions are equal but for Names.
func sameExpr(a, b api.Expr) bool {
	return a.ID == b.ID && a.Kind == b.Kind && a.N == b.N && a.Ref == b.Ref && sameType(a.Type, b.Type) && slices.EqualFunc(a.Kids, b.Kids, sameExpr)
}

// TestOutside changes what does not belong to the inside.
func TestOutside(t *testing.T) {
	names := func(e *api.Expr) { e.Names = append(e.Names, "x") }
	for what, f := range map[string]func(d *api.Def){
		"the name":             func(d *api.Def) { d.Name = "" },
		"the module":           func(d *api.Def) { d.Mod = id(none) },
		"the place":            func(d *api.Def) { d.Place = -5 },
		"the layout":           func(d *api.Def) { d.Layout = []string{" "} },
		"the name of a slot":   func(d *api.Def) { d.Slots[0].Name = d.Slots[1%len(d.Slots)].Name },
		"the place of a slot":  func(d *api.Def) { d.Slots[0].Place = math.MaxInt },
		"the names of a node":  func(d *api.Def) { names(&d.Body) },
		"the names of a kid":   func(d *api.Def) { names(at(&d.Body, paths(d.Body)[len(paths(d.Body))-1])) },
		"an empty list":        func(d *api.Def) { d.Result.Kids, d.Layout = slices.Grow(d.Result.Kids, 1), []string{} },
		"an empty list inside": func(d *api.Def) { d.Slots[0].Type.Kids, d.Body.Kids = grown(d.Slots[0].Type.Kids), grown(d.Body.Kids) },
		"nothing":              func(*api.Def) {},
	} {
		for n := recP; n <= convC; n++ {
			affects(t, what, world(), change(n, f))
			affects(t, what+", back", change(n, f), world())
		}
	}
	for _, kind := range append(slices.Clone(noKinds), api.KRec, api.KCase) {
		p := with(def(8, kind, whole, api.Expr{}, whole))
		for _, body := range []api.Expr{num(850), call(850, funF), call(850, none), list(850, of(none)), wrong(850)} {
			affects(t, "the body of a definition that has none", p, with(def(8, kind, whole, body, whole)))
			q := with(def(8, kind, whole, body, whole))
			q.Defs[funF-1].Result = truth
			affects(t, "what the body of a definition that has none names", p, q, funF, testT)
		}
	}
	p := world()
	p.Mods = []api.Mod{{ID: id(90), Name: "m", Defs: ids(1, 2, 3)}}
	affects(t, "modules", world(), p)
	affects(t, "modules, back", p, world())
	p = world()
	slices.Reverse(p.Defs)
	affects(t, "the order of the definitions", world(), p)
}

// grown returns an empty list for none.
func grown[T any](l []T) []T { return append([]T{}, l...) }

// TestNamed has definitions that name the definition x in one place each, where x gets another signature, is new, is gone and is back.
func TestNamed(t *testing.T) {
	const x, user = 8, 9
	deep := levelsOf(of(x), 30)
	kid := func(e api.Expr) api.Expr {
		return node(950, api.NLet, 0, 0, num(951), node(952, api.NOp, api.Add, 0, num(953), e))
	}
	named := map[string]api.Def{
		"a slot":                               def(user, api.KFun, whole, num(950), of(x)),
		"the last slot":                        def(user, api.KRec, whole, api.Expr{}, whole, truth, of(x)),
		"a slot of a variant":                  def(user, api.KCase, whole, api.Expr{}, of(x)),
		"a slot of a kind that does not exist": def(user, 9, whole, api.Expr{}, of(x)),
		"a list in a slot":                     def(user, api.KTest, whole, num(950), listOf(of(x))),
		"a deep list in a slot":                def(user, api.KConv, whole, num(950), deep),
		"a type that is not valid in a slot":   def(user, api.KFun, whole, num(950), api.Type{Kind: -4, Kids: []api.Type{whole, {Kind: api.TBool, Kids: []api.Type{truth, of(x), truth}}}}),
		"a type in a TDef in a slot":           def(user, api.KFun, whole, num(950), api.Type{Kind: api.TDef, Def: id(recP), Kids: []api.Type{of(x)}}),
		"the result":                           def(user, api.KFun, of(x), num(950)),
		"a list in the result":                 def(user, api.KOn, listOf(listOf(of(x))), num(950)),
		"the result of a record":               def(user, api.KRec, of(x), api.Expr{}, whole),
		"the result of a variant":              def(user, api.KCase, listOf(of(x)), api.Expr{}, whole),
		"the result of no kind":                def(user, -1, of(x), api.Expr{}),
		"a list of it":                         def(user, api.KFun, whole, list(950, of(x))),
		"a list of lists of it":                def(user, api.KTest, whole, kid(list(950, deep))),
		"a list of another type with kids":     def(user, api.KTest, whole, kid(list(950, api.Type{Kids: []api.Type{truth, of(x)}}))),
		"a kid of a node that has none":        def(user, api.KFun, whole, node(950, api.NInt, 0, 0, call(951, x))),
		"a kid of a variable":                  def(user, api.KFun, whole, node(950, api.NVar, 0, 901, call(951, x)), whole),
		"a kid of no kind of a node":           def(user, api.KFun, whole, node(950, -1, 0, 0, num(951), call(952, x), num(953))),
		"itself and it":                        def(user, api.KFun, of(user), call(950, user, call(951, x))),
		"it several times":                     def(user, api.KFun, of(x), call(950, x, call(951, x)), of(x), of(x)),
	}
	for _, kind := range []int{api.NCall, api.NRec, api.NField, api.NCase, api.NMatch} {
		named["a node of the kind "+string(rune('0'+kind))] = def(user, api.KFun, whole, node(950, kind, 0, x))
		named["a kid of the kind "+string(rune('0'+kind))] = def(user, api.KConv, whole, kid(node(955, kind, 3, x, num(956))))
		named["a node of the kind "+string(rune('0'+kind))+" in a handler"] = def(user, api.KOn, whole, kid(kid(node(957, kind, -1, x))))
		named["a node of the kind "+string(rune('0'+kind))+" in a test"] = def(user, api.KTest, whole, kid(node(957, kind, -1, x)))
	}
	unnamed := map[string]api.Def{
		"the ID of a slot":                 {ID: id(user), Kind: api.KFun, Slots: []api.Slot{{ID: id(x)}}, Body: num(950)},
		"the ID of a node":                 def(user, api.KFun, whole, num(x)),
		"the module":                       {ID: id(user), Kind: api.KFun, Mod: id(x), Body: num(950)},
		"the Def of another type":          def(user, api.KFun, api.Type{Def: id(x)}, num(950), api.Type{Kind: api.TBool, Def: id(x)}, api.Type{Kind: api.TList, Def: id(x), Kids: []api.Type{{Kind: -1, Def: id(x)}}}),
		"a list of the Def of another one": def(user, api.KFun, whole, list(950, api.Type{Def: id(x)})),
		"the body of a record":             def(user, api.KRec, whole, call(950, x), whole),
		"the body of a variant":            def(user, api.KCase, whole, list(950, of(x)), whole),
		"the body of no kind":              def(user, api.KConv+1, whole, call(950, x), whole),
		"another Shop":                     def(user, api.KFun, api.Type{Kind: api.TDef, Def: api.ID{Shop: 2, Seq: 2, Index: x}}, api.Expr{Kind: api.NCall, Ref: api.ID{Shop: 1, Seq: 1, Index: x}}),
	}
	for kind := -1; kind <= api.NFold+1; kind++ {
		if !slices.Contains([]int{api.NCall, api.NRec, api.NField, api.NCase, api.NMatch}, kind) {
			unnamed["the Ref of a node of the kind "+string(rune('0'+kind))] = def(user, api.KFun, whole, kid(node(950, kind, 0, x, num(958))))
		}
		if kind != api.NList {
			e := node(950, kind, 0, 0)
			e.Type = listOf(of(x))
			unnamed["the Type of a node of the kind "+string(rune('0'+kind))] = def(user, api.KFun, whole, kid(e), whole)
		}
	}
	xs := []api.Def{def(x, api.KRec, whole, api.Expr{}, whole), def(x, api.KFun, whole, num(850)), def(x, api.KCase, whole, api.Expr{}, of(recP), truth), def(x, 9, whole, api.Expr{})}
	for i, a := range xs {
		b := xs[(i+1)%len(xs)]
		for what, d := range named {
			affects(t, what+" names another one", prog(a, d), prog(b, d), x, user)
			affects(t, what+" names a new one", prog(d), prog(a, d), x, user)
			affects(t, what+" names one that is gone", prog(a, d), prog(d), user)
			affects(t, what+" names the same one", prog(a, d), prog(d, a))
			affects(t, what+" names none", prog(d), prog(d))
			affects(t, what+" is new", prog(a), prog(a, d), user)
			affects(t, what+" is gone", prog(a, d), prog(a))
			affects(t, what+" names the first one", prog(a, b, d), prog(b, d, a), x, user)
			affects(t, what+" names the first one, which is the same", prog(a, b, d), prog(a, d))
			inside := a
			inside.Slots = slices.Clone(a.Slots)
			inside.Slots = append(inside.Slots, api.Slot{ID: id(888)})
			outside := inside
			outside.Slots = slices.Clone(inside.Slots)
			outside.Slots[len(outside.Slots)-1].Most = 7
			affects(t, what+" names one with another bound of a slot", prog(inside, d), prog(outside, d), x)
		}
		for what, d := range unnamed {
			affects(t, what+" does not name another one", prog(a, d), prog(b, d), x)
			affects(t, what+" does not name a new one", prog(d), prog(a, d), x)
			affects(t, what+" does not name one that is gone", prog(a, d), prog(d))
		}
	}
	a, d := xs[1], named["a node of the kind 3"]
	b := a
	b.Body = yes(851)
	affects(t, "a call of a function with another body", prog(a, d), prog(b, d), x)
}

// TestNames has definitions that name a definition which names another one.
func TestNames(t *testing.T) {
	a := def(1, api.KFun, whole, num(150))
	b, c := def(2, api.KFun, whole, call(250, 1)), def(3, api.KFun, whole, call(350, 2))
	other := def(1, api.KFun, truth, yes(150))
	affects(t, "a chain of calls", prog(a, b, c), prog(other, b, c), 1, 2)
	affects(t, "a chain of calls with a new one", prog(b, c), prog(a, b, c), 1, 2)
	affects(t, "a chain of calls with one that is gone", prog(a, b, c), prog(b, c), 2)
	affects(t, "a chain of calls with one in the middle that is gone", prog(a, b, c), prog(a, c), 3)
	affects(t, "a chain of calls with one in the middle that is back", prog(a, c), prog(a, b, c), 2, 3)
	affects(t, "a chain of calls with an end that is gone", prog(a, b, c), prog(a, b))
	// Definitions that name themselves, or each other.
	r := def(1, api.KRec, whole, api.Expr{}, listOf(of(1)))
	s := def(1, api.KRec, whole, api.Expr{}, listOf(of(1)), whole)
	affects(t, "a record of itself", prog(r), prog(s), 1)
	affects(t, "a record of itself, the same", prog(r), prog(r))
	affects(t, "a record of itself that is new", prog(), prog(r), 1)
	f := def(1, api.KFun, whole, call(150, 1))
	g := f
	g.Body = call(151, 1)
	affects(t, "a function that calls itself", prog(f), prog(g), 1)
	affects(t, "a function that calls itself, the same", prog(f), prog(f))
	affects(t, "functions that call each other", prog(def(1, api.KFun, whole, call(150, 2)), def(2, api.KFun, whole, call(250, 1))), prog(def(1, api.KFun, whole, call(151, 2)), def(2, api.KFun, whole, call(250, 1))), 1)
	affects(t, "functions that call each other, with another result", prog(def(1, api.KFun, whole, call(150, 2)), def(2, api.KFun, whole, call(250, 1))), prog(def(1, api.KFun, truth, call(150, 2)), def(2, api.KFun, whole, call(250, 1))), 1, 2)
}

// TestPrograms has new and missing definitions, and definitions with one ID.
func TestPrograms(t *testing.T) {
	affects(t, "no definitions", api.Prog{}, api.Prog{})
	affects(t, "the same program", world(), world())
	affects(t, "all are new", api.Prog{}, world(), 1, 2, 3, 4, 5, 6, 7)
	affects(t, "all are gone", world(), api.Prog{})
	a, b := def(8, api.KRec, whole, api.Expr{}), def(8, api.KFun, truth, num(850))
	affects(t, "the first one of two", prog(a, b), prog(b, a), 8)
	affects(t, "one behind the first one is new", prog(a), prog(a, b, b))
	affects(t, "one behind the first one is gone", prog(b, a, a), prog(b))
	affects(t, "the first one is gone", prog(a, b), prog(b), 8)
	affects(t, "the same three times", prog(a, a), prog(a, a, a))
	affects(t, "new ones with one ID", prog(), prog(b, a, b), 8)
	zero := api.Def{Kind: api.KRec}
	if got := check.Affected(prog(), prog(zero)); !slices.Equal(got, []api.ID{{}}) {
		t.Errorf("P10.3: for a definition with the zero ID Affected returns %v", got)
	}
	user := def(8, api.KFun, api.Type{Kind: api.TDef}, num(850))
	if got := check.Affected(prog(user, zero), prog(user)); !slices.Equal(got, ids(8)) {
		t.Errorf("P10.3: without a definition with the zero ID Affected returns %v", got)
	}
}

// TestSorted has IDs whose order is by Shop, Seq and Index, in programs in another order, with each several times.
func TestSorted(t *testing.T) {
	var l []api.ID
	for _, shop := range []int{math.MinInt, -1, 0, 1, 7, math.MaxInt} {
		for _, seq := range []int{math.MinInt, -2, 0, 5, 10, math.MaxInt} {
			for _, index := range []int{-10, -9, 0, 9, 10, 100} {
				l = append(l, api.ID{Shop: shop, Seq: seq, Index: index})
			}
		}
	}
	var p api.Prog
	for i := range l {
		p.Defs = append(p.Defs, api.Def{ID: l[i*101%len(l)], Kind: api.KFun}) // 101 and 216 have no common divisor
	}
	p.Defs = append(p.Defs, p.Defs...)
	for range 5 {
		if got := check.Affected(api.Prog{}, p); !slices.Equal(got, l) {
			t.Fatalf("P10.3: Affected returns %v, not %v", got, l)
		}
	}
	if got, n := check.Again(api.Prog{}, p, nil); len(got) != 0 || n != 2*len(l) {
		t.Errorf("P10.4: Again examines %d elements of Defs, not %d, and returns %+v", n, 2*len(l), got)
	}
}
