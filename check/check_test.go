package check_test

import (
	"math"
	"reflect"
	"slices"
	"testing"

	"splicery/api"
	"splicery/check"
)

// The functions of the package have these types.
var (
	_ func(api.Prog, api.ID) (api.Errno, api.ID)                     = check.Def
	_ func(api.Prog) []api.Conflict                                  = check.All
	_ func(api.Prog, api.Prog) []api.ID                              = check.Affected
	_ func(api.Prog, api.Prog, []api.Conflict) ([]api.Conflict, int) = check.Again
)

// id returns the ID with an index.
func id(n int) api.ID { return api.ID{Shop: 1, Seq: 2, Index: n} }

func of(n int) api.Type { return api.Type{Kind: api.TDef, Def: id(n)} }

func listOf(t api.Type) api.Type { return api.Type{Kind: api.TList, Kids: []api.Type{t}} }

var (
	whole = api.Type{}
	truth = api.Type{Kind: api.TBool}
)

// The definitions of world. A definition n has slots with the IDs 100 * n + 1, and so on, and nodes with IDs from 100 * n + 50 on.
const (
	recP, caseE, recR, funF, onO, testT, convC = 1, 2, 3, 4, 5, 6, 7
	none                                       = 99
)

// slots returns slots with these types for the definition n.
func slots(n int, l ...api.Type) []api.Slot {
	var s []api.Slot
	for i, t := range l {
		s = append(s, api.Slot{ID: id(100*n + 1 + i), Name: string(rune('a' + i)), Type: t, Place: i})
	}
	return s
}

// node returns a node with the ID n.
func node(n, kind, number, ref int, kids ...api.Expr) api.Expr {
	e := api.Expr{ID: id(n), Kind: kind, N: number, Kids: kids}
	if ref != 0 {
		e.Ref = id(ref)
	}
	return e
}

func num(n int) api.Expr { return node(n, api.NInt, 5, 0) }

func yes(n int) api.Expr { return node(n, api.NBool, 1, 0) }

func v(n, ref int) api.Expr { return node(n, api.NVar, 0, ref) }

func call(n, ref int, kids ...api.Expr) api.Expr { return node(n, api.NCall, 0, ref, kids...) }

func list(n int, t api.Type, kids ...api.Expr) api.Expr {
	e := node(n, api.NList, 0, 0, kids...)
	e.Type = t
	return e
}

// wrong returns a node with a kind that does not exist.
func wrong(n int) api.Expr { return node(n, api.NFold+1, 0, 0) }

// def returns a definition with the ID n.
func def(n, kind int, result api.Type, body api.Expr, l ...api.Type) api.Def {
	return api.Def{ID: id(n), Kind: kind, Mod: id(90), Name: "d", Slots: slots(n, l...), Result: result, Body: body, Place: n}
}

func prog(l ...api.Def) api.Prog { return api.Prog{Defs: l} }

// world is a sound program with a definition of each kind: a record P, a variant E of events, a record R of what the handler o makes of a P and an E; a function, a test that calls it, and a converter.
func world() api.Prog {
	t := def(testT, api.KTest, truth, node(650, api.NOp, api.Less, 0, call(651, funF, v(652, 601), node(653, api.NRec, 0, recP, v(654, 601), v(655, 602))), num(656)), whole, truth)
	t.Slots[0].Most = 3
	return prog(
		def(recP, api.KRec, whole, api.Expr{}, whole, truth),
		def(caseE, api.KCase, whole, api.Expr{}, whole, of(recP)),
		def(recR, api.KRec, whole, api.Expr{}, of(recP), listOf(whole), whole),
		def(funF, api.KFun, whole, v(450, 401), whole, of(recP)),
		def(onO, api.KOn, of(recR), node(550, api.NRec, 0, recR, v(551, 501), list(552, whole), num(553)), of(recP), of(caseE)),
		t,
		def(convC, api.KConv, listOf(of(recP)), v(750, 701), listOf(of(recP))),
	)
}

// with returns the world with another definition in the place of the one with its ID, or behind all others.
func with(d api.Def) api.Prog {
	p := world()
	i := slices.IndexFunc(p.Defs, func(other api.Def) bool { return other.ID == d.ID })
	if i < 0 {
		p.Defs = append(p.Defs, d)
	} else {
		p.Defs[i] = d
	}
	return p
}

// get returns the definition n of the world.
func get(n int) api.Def { return world().Defs[n-1] }

// conflict returns what All has for the error of the definition n.
func conflict(n int, code api.Errno, on int) api.Conflict {
	return api.Conflict{Code: code, On: id(on), Kind: api.OpKinds, By: []api.ID{id(n)}}
}

// same reports whether two lists of conflicts are equal, where nil and empty lists are the same.
func same(a, b []api.Conflict) bool {
	return slices.EqualFunc(a, b, func(x, y api.Conflict) bool {
		by := slices.Equal(x.By, y.By)
		x.By, y.By = nil, nil
		return by && reflect.DeepEqual(x, y)
	})
}

// has checks the error of the definition n of a program.
func has(t *testing.T, what string, p api.Prog, n int, code api.Errno, on int) {
	t.Helper()
	want := api.ID{}
	if code != api.OK && code != api.ErrNone {
		want = id(on)
	}
	if got, at := check.Def(p, id(n)); got != code || at != want {
		t.Errorf("P10.1: %s: Def returns %d, %v, not %d, %v", what, got, at, code, want)
	}
	var of []api.Conflict // what All has for the definition
	for _, c := range check.All(p) {
		if slices.Equal(c.By, []api.ID{id(n)}) {
			of = append(of, c)
		}
	}
	if code == api.OK || code == api.ErrNone {
		if len(of) > 0 {
			t.Errorf("P10.2: %s: All has %+v for it", what, of)
		}
		return
	}
	if !same(of, []api.Conflict{conflict(n, code, on)}) {
		t.Errorf("P10.2: %s: All has %+v for it, not one of %d on %v", what, of, code, want)
	}
}

func TestExample(t *testing.T) {
	make := func(result api.Type, body api.Expr) api.Prog {
		return prog(def(1, api.KFun, result, body, whole), def(2, api.KFun, whole, call(250, 1, v(251, 201)), whole))
	}
	p := make(whole, v(150, 101))
	if l := check.All(p); len(l) > 0 {
		t.Errorf("P10.2: All returns %+v for a sound program", l)
	}
	q := make(whole, node(151, api.NOp, api.Add, 0, v(150, 101), num(152)))
	if got := check.Affected(p, q); !slices.Equal(got, []api.ID{id(1)}) {
		t.Errorf("P10.3: if the body of f is changed, %v are affected", got)
	}
	q = make(truth, v(150, 101))
	if got := check.Affected(p, q); !slices.Equal(got, []api.ID{id(1), id(2)}) {
		t.Errorf("P10.3: if the Result of f is changed, %v are affected", got)
	}
	want := []api.Conflict{conflict(1, api.ErrType, 150), conflict(2, api.ErrType, 250)}
	if got := check.All(q); !same(got, want) {
		t.Errorf("P10.2: All returns %+v, not %+v", got, want)
	}
	if got, n := check.Again(p, q, check.All(p)); !same(got, want) || n != 2 {
		t.Errorf("P10.4: Again returns %+v and %d", got, n)
	}
}

func TestSound(t *testing.T) {
	for n := recP; n <= convC; n++ {
		has(t, "a sound program", world(), n, api.OK, 0)
	}
	if l := check.All(world()); len(l) > 0 {
		t.Errorf("P10.2: All returns %+v for a sound program", l)
	}
}

// TestNone has IDs that no definition has.
func TestNone(t *testing.T) {
	for _, n := range []int{0, 8, 101, 450, none, math.MinInt, math.MaxInt} {
		has(t, "an ID of no definition", world(), n, api.ErrNone, 0)
		has(t, "an ID in an empty program", api.Prog{}, n, api.ErrNone, 0)
	}
	for _, n := range []api.ID{{}, {Shop: 1, Seq: 2}, {Shop: 2, Seq: 2, Index: 1}, {Shop: 1, Seq: 1, Index: 1}} {
		if code, on := check.Def(world(), n); code != api.ErrNone || on != (api.ID{}) {
			t.Errorf("P10.1: Def of %v returns %d, %v", n, code, on)
		}
	}
	modules := api.Prog{Mods: []api.Mod{{ID: id(1), Name: "m", Defs: []api.ID{id(1)}}}}
	has(t, "the ID of a module", modules, 1, api.ErrNone, 0)
	if l := check.All(modules); len(l) > 0 {
		t.Errorf("P10.2: All of a program without definitions returns %+v", l)
	}
	// The zero ID is an ID as all others.
	p := prog(api.Def{Kind: api.KRec}, def(1, api.KFun, api.Type{Kind: api.TDef}, v(150, 101), api.Type{Kind: api.TDef}))
	if l := check.All(p); !same(l, []api.Conflict{{Code: api.ErrNeed, Kind: api.OpKinds, By: []api.ID{{}}}}) {
		t.Errorf("P10.2: All of a definition with the zero ID returns %+v", l)
	}
}

// TestTwice has several definitions with one ID: the first one counts for all of them.
func TestTwice(t *testing.T) {
	good, bad := def(8, api.KRec, whole, api.Expr{}, whole), def(8, api.KFun, truth, num(850))
	user := def(9, api.KFun, of(8), v(950, 901), of(8))
	caller := def(10, api.KFun, truth, call(1050, 8))
	has(t, "a good one in front of a bad one", prog(good, user, bad), 8, api.OK, 0)
	has(t, "a type in front of a function", prog(user, good, bad), 9, api.OK, 0)
	has(t, "a call of a type", prog(caller, good, bad), 10, api.ErrDead, 1050)
	has(t, "a function in front of a type", prog(user, bad, good), 9, api.ErrDead, 901)
	has(t, "a call of a function", prog(bad, good, caller), 10, api.OK, 0)
	if l := check.All(prog(good, bad, user, good)); len(l) > 0 {
		t.Errorf("P10.2: All returns %+v, where the first definition has no error", l)
	}
	want := []api.Conflict{conflict(8, api.ErrType, 850), conflict(9, api.ErrDead, 901), conflict(8, api.ErrType, 850), conflict(10, api.ErrNeed, 10), conflict(8, api.ErrType, 850)}
	if l := check.All(prog(bad, user, good, def(10, api.KRec, whole, api.Expr{}), good)); !same(l, want) {
		t.Errorf("P10.2: All returns %+v, not %+v", l, want)
	}
}

// TestOrder has errors in the order of Defs, which need not be that of the IDs.
func TestOrder(t *testing.T) {
	p := prog(def(9, api.KRec, whole, api.Expr{}), def(2, api.KFun, whole, yes(250)), def(5, api.KConv, whole, num(550)), def(4, api.KFun, whole, num(450)), def(1, 9, whole, num(150)))
	want := []api.Conflict{conflict(9, api.ErrNeed, 9), conflict(2, api.ErrType, 250), conflict(5, api.ErrArg, 5), conflict(1, api.ErrArg, 1)}
	if l := check.All(p); !same(l, want) {
		t.Errorf("P10.2: All returns %+v, not %+v", l, want)
	}
}
