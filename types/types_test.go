package types_test

import (
	"math"
	"reflect"
	"slices"
	"testing"

	"splicery/api"
	"splicery/types"
)

// The functions of the package have these types.
var (
	_ func(api.Prog, []types.Bound, api.Expr) (api.Type, api.ID, api.Errno)           = types.Infer
	_ func(api.Prog, []types.Bound, api.Expr, api.Type) (api.ID, api.Errno)           = types.Fits
	_ func(api.Prog, []types.Bound, api.Expr, api.ID) ([]types.Bound, api.Expr, bool) = types.Inside
	_ func(api.Expr) []types.Bound                                                    = types.Free
)

// id returns the ID with an index.
func id(n int) api.ID { return api.ID{Shop: 1, Seq: 2, Index: n} }

func of(n int) api.Type { return api.Type{Kind: api.TDef, Def: id(n)} }

func listOf(t api.Type) api.Type { return api.Type{Kind: api.TList, Kids: []api.Type{t}} }

var (
	whole = api.Type{}
	truth = api.Type{Kind: api.TBool}
)

// The IDs of the definitions of world.
const (
	recP, recB, recE, caseS, caseE = 1, 2, 3, 4, 5
	funF, funN, convC, onO, testT  = 6, 7, 8, 9, 10
	recD, caseD, funD, nine, twice = 11, 12, 13, 14, 15
	none                           = 16
)

// The IDs of the slots that around binds.
const (
	anInt, aBool, ints, bools, aP, aB, aS, lists, aD = 31, 32, 33, 34, 35, 36, 37, 38, 39
)

// slots returns slots with these types.
func slots(l ...api.Type) []api.Slot {
	var s []api.Slot
	for i, t := range l {
		s = append(s, api.Slot{ID: id(20 + i), Name: string(rune('a' + i)), Type: t, Place: 7 - i})
	}
	return s
}

// world has records (P, B, and E without slots), variants (S, and E without slots), functions (f, and n without slots), a converter, a handler and a test; definitions with types that are not valid (D), one of a kind that does not exist, and two with one ID.
func world() api.Prog {
	return api.Prog{Defs: []api.Def{
		{ID: id(recP), Kind: api.KRec, Name: "P", Slots: slots(whole, whole)},
		{ID: id(recB), Kind: api.KRec, Name: "B", Slots: slots(listOf(whole), of(caseS), truth)},
		{ID: id(recE), Kind: api.KRec, Name: "E"},
		{ID: id(caseS), Kind: api.KCase, Name: "S", Slots: slots(whole, truth, of(recP))},
		{ID: id(caseE), Kind: api.KCase, Name: "F"},
		{ID: id(funF), Kind: api.KFun, Name: "f", Slots: slots(whole, truth), Result: of(recP)},
		{ID: id(funN), Kind: api.KFun, Name: "n", Result: listOf(truth)},
		{ID: id(convC), Kind: api.KConv, Name: "c", Slots: slots(of(recP)), Result: of(caseS)},
		{ID: id(onO), Kind: api.KOn, Name: "o", Slots: slots(whole, of(caseS)), Result: of(recB)},
		{ID: id(testT), Kind: api.KTest, Name: "t", Slots: slots(whole), Result: whole},
		{ID: id(recD), Kind: api.KRec, Name: "D", Slots: slots(of(none), api.Type{Kind: api.TList}, api.Type{Kind: 9}, whole)},
		{ID: id(caseD), Kind: api.KCase, Name: "D", Slots: slots(of(none), api.Type{Kind: api.TList, Kids: []api.Type{whole, whole}})},
		{ID: id(funD), Kind: api.KFun, Name: "d", Slots: slots(of(none)), Result: api.Type{Kind: -1, Def: id(3), Kids: []api.Type{truth}}},
		{ID: id(nine), Kind: 9, Name: "k", Slots: slots(whole)},
		{ID: id(twice), Kind: api.KRec, Name: "Q", Slots: slots(truth)},
		{ID: id(twice), Kind: api.KCase, Name: "R", Slots: slots(whole, whole), Result: truth},
	}}
}

// around returns what is bound in most tests: a slot of each of some types.
func around() []types.Bound {
	return []types.Bound{
		{ID: id(anInt)}, {ID: id(aBool), Type: truth}, {ID: id(ints), Type: listOf(whole)}, {ID: id(bools), Type: listOf(truth)},
		{ID: id(aP), Type: of(recP)}, {ID: id(aB), Type: of(recB)}, {ID: id(aS), Type: of(caseS)}, {ID: id(lists), Type: listOf(listOf(of(recP)))},
		{ID: id(aD), Type: of(recD)},
	}
}

// node returns a node with the ID n.
func node(n, kind, number, ref int, kids ...api.Expr) api.Expr {
	e := api.Expr{ID: id(n), Kind: kind, N: number, Kids: kids}
	if ref != 0 {
		e.Ref = id(ref)
	}
	return e
}

func num(n int) api.Expr { return node(n, api.NInt, 5, 0) }

func yes(n int) api.Expr { return node(n, api.NBool, 1, 0) }

func v(n, ref int) api.Expr { return node(n, api.NVar, 0, ref) }

// vn is the variable of the name number of a node.
func vn(n, ref, number int) api.Expr { return node(n, api.NVar, number, ref) }

func op(n, number int, kids ...api.Expr) api.Expr { return node(n, api.NOp, number, 0, kids...) }

func call(n, ref int, kids ...api.Expr) api.Expr { return node(n, api.NCall, 0, ref, kids...) }

func rec(n, ref int, kids ...api.Expr) api.Expr { return node(n, api.NRec, 0, ref, kids...) }

func field(n, ref, place int, kids ...api.Expr) api.Expr {
	return node(n, api.NField, place, ref, kids...)
}

func one(n, ref, place int, kids ...api.Expr) api.Expr {
	return node(n, api.NCase, place, ref, kids...)
}

func match(n, ref int, kids ...api.Expr) api.Expr { return node(n, api.NMatch, 0, ref, kids...) }

func cond(n int, kids ...api.Expr) api.Expr { return node(n, api.NIf, 0, 0, kids...) }

func let(n int, kids ...api.Expr) api.Expr { return node(n, api.NLet, 0, 0, kids...) }

func fold(n int, kids ...api.Expr) api.Expr { return node(n, api.NFold, 0, 0, kids...) }

func list(n int, t api.Type, kids ...api.Expr) api.Expr {
	e := node(n, api.NList, 0, 0, kids...)
	e.Type = t
	return e
}

// sameType reports whether two types are equal.
func sameType(a, b api.Type) bool {
	return a.Kind == b.Kind && a.Def == b.Def && slices.EqualFunc(a.Kids, b.Kids, sameType)
}

func sameBound(a, b types.Bound) bool {
	return a.ID == b.ID && a.N == b.N && sameType(a.Type, b.Type)
}

// has checks that an expression has a type, in the world and with around bound.
func has(t *testing.T, what string, e api.Expr, want api.Type) {
	t.Helper()
	if got, n, code := types.Infer(world(), around(), e); !sameType(got, want) || n != (api.ID{}) || code != api.OK {
		t.Errorf("P9.1: %s: Infer returns %v, %v, %d, not %v", what, got, n, code, want)
	}
	if n, code := types.Fits(world(), around(), e, want); n != (api.ID{}) || code != api.OK {
		t.Errorf("P9.2: %s: Fits returns %v, %d, not no error", what, n, code)
	}
	if n, code := types.Fits(world(), around(), e, listOf(want)); n != e.ID || code != api.ErrType {
		t.Errorf("P9.2: %s: Fits with another type returns %v, %d, not %v and ErrType", what, n, code, e.ID)
	}
}

// wrong checks that an expression has an error at the node n, in the world and with around bound.
func wrong(t *testing.T, what string, e api.Expr, n int, want api.Errno) {
	t.Helper()
	if got, at, code := types.Infer(world(), around(), e); !reflect.DeepEqual(got, api.Type{}) || at != id(n) || code != want {
		t.Errorf("P9.1: %s: Infer returns %v, %v, %d, not the zero type, %v and %d", what, got, at, code, id(n), want)
	}
	for _, x := range []api.Type{whole, truth, of(recP)} {
		if at, code := types.Fits(world(), around(), e, x); at != id(n) || code != want {
			t.Errorf("P9.2: %s: Fits returns %v, %d, not %v and %d", what, at, code, id(n), want)
		}
	}
}

func TestExamples(t *testing.T) {
	p := api.Prog{Defs: []api.Def{{ID: id(1), Kind: api.KRec, Name: "Point", Slots: slots(whole, whole)}}}
	l := []types.Bound{{ID: id(2), Type: of(1)}}
	a := v(50, 2)
	for _, x := range []struct {
		e    api.Expr
		t    api.Type
		n    api.ID
		code api.Errno
	}{
		{field(51, 1, 0, a), whole, api.ID{}, api.OK},
		{op(51, api.Add, a, num(52)), whole, id(50), api.ErrType},
		{let(51, field(52, 1, 1, a), op(53, api.Less, v(54, 51), v(55, 51))), truth, api.ID{}, api.OK},
		{one(51, 1, 0, num(52)), whole, id(51), api.ErrDead},
		{v(51, 3), whole, id(51), api.ErrDead},
	} {
		if got, n, code := types.Infer(p, l, x.e); !sameType(got, x.t) || n != x.n || code != x.code {
			t.Errorf("P9.1: Infer of %+v returns %v, %v, %d", x.e, got, n, code)
		}
	}
	if got := types.Free(let(51, a, v(52, 51))); len(got) != 1 || !sameBound(got[0], types.Bound{ID: id(2)}) {
		t.Errorf("P9.4: Free returns %v, not the slot a", got)
	}
}

// proper has nodes of all kinds that are right, with their types. The nodes have the ID 100, their kids 101 and so on.
func proper() []struct {
	e api.Expr
	t api.Type
} {
	type row = struct {
		e api.Expr
		t api.Type
	}
	l := []row{
		{num(100), whole},
		{yes(100), truth},
		{v(100, lists), listOf(listOf(of(recP)))},
		{call(100, funF, num(101), yes(102)), of(recP)},
		{call(100, funN), listOf(truth)},
		{call(100, convC, v(101, aP)), of(caseS)},
		{op(100, api.Less, num(101), num(102)), truth},
		{op(100, api.Same, num(101), v(102, anInt)), truth},
		{op(100, api.Same, v(101, aB), v(102, aB)), truth},
		{op(100, api.Same, v(101, lists), v(102, lists)), truth},
		{op(100, api.And, yes(101), v(102, aBool)), truth},
		{op(100, api.Or, yes(101), v(102, aBool)), truth},
		{op(100, api.Not, yes(101)), truth},
		{op(100, api.Join, v(101, ints), v(102, ints)), listOf(whole)},
		{op(100, api.Join, v(101, lists), v(102, lists)), listOf(listOf(of(recP)))},
		{op(100, api.Len, v(101, bools)), whole},
		{op(100, api.Len, v(101, lists)), whole},
		{cond(100, yes(101), v(102, aS), v(103, aS)), of(caseS)},
		{let(100, num(101), yes(102)), truth},
		{let(100, v(101, aP), v(102, 100)), of(recP)},
		{rec(100, recP, num(101), num(102)), of(recP)},
		{rec(100, recB, v(101, ints), v(102, aS), yes(103)), of(recB)},
		{rec(100, recE), of(recE)},
		{field(100, recP, 1, v(101, aP)), whole},
		{field(100, recB, 0, v(101, aB)), listOf(whole)},
		{field(100, recB, 1, v(101, aB)), of(caseS)},
		{field(100, recB, 2, v(101, aB)), truth},
		{one(100, caseS, 0, num(101)), of(caseS)},
		{one(100, caseS, 1, yes(101)), of(caseS)},
		{one(100, caseS, 2, v(101, aP)), of(caseS)},
		{match(100, caseS, v(101, aS), yes(102), vn(103, 100, 1), op(104, api.Same, vn(105, 100, 2), v(106, aP))), truth},
		{match(100, caseS, v(101, aS), vn(102, 100, 0), num(103), field(104, recP, 0, vn(105, 100, 2))), whole},
		{list(100, whole), listOf(whole)},
		{list(100, truth, yes(101)), listOf(truth)},
		{list(100, listOf(whole), v(101, ints), list(102, whole), v(103, ints)), listOf(listOf(whole))},
		{list(100, of(caseE)), listOf(of(caseE))},
		{fold(100, v(101, ints), yes(102), v(103, aBool)), truth},
		{fold(100, v(101, ints), num(102), op(103, api.Add, vn(104, 100, 0), vn(105, 100, 1))), whole},
		{fold(100, v(101, bools), v(102, aP), cond(103, vn(104, 100, 0), vn(105, 100, 1), v(106, aP))), of(recP)},
		{fold(100, v(101, lists), num(102), op(103, api.Add, op(104, api.Len, vn(105, 100, 0)), vn(106, 100, 1))), whole},
		{rec(100, twice, yes(101)), of(twice)},
	}
	for n := api.Add; n <= api.Rem; n++ {
		l = append(l, row{op(100, n, num(101), v(102, anInt)), whole})
	}
	return l
}

func TestTypes(t *testing.T) {
	for i, x := range proper() {
		has(t, "proper "+string(rune('0'+i)), x.e, x.t)
		// Names, and what the kind does not use, do not count.
		e := x.e
		e.Names = []string{"", "if", "a", "a"}
		if e.Kind != api.NList {
			e.Type = of(none)
		}
		if !slices.Contains([]int{api.NVar, api.NCall, api.NRec, api.NField, api.NCase, api.NMatch}, e.Kind) {
			e.Ref = id(none)
		}
		if !slices.Contains([]int{api.NInt, api.NBool, api.NVar, api.NOp, api.NField, api.NCase}, e.Kind) {
			e.N = math.MinInt
		}
		has(t, "proper with further fields", e, x.t)
	}
}

// TestKids gives each kind of node too few and too many kids.
func TestKids(t *testing.T) {
	for _, x := range proper() {
		if x.e.Kind == api.NList {
			continue
		}
		good := x.e.Kids
		for n := range 10 {
			if n == len(good) {
				continue
			}
			e := x.e
			e.Kids = append(slices.Clone(good[:min(n, len(good))]), slices.Repeat([]api.Expr{num(150)}, max(n-len(good), 0))...)
			wrong(t, "another number of kids", e, 100, api.ErrType)
			// The kids are not examined then.
			for i := range e.Kids {
				e.Kids[i] = v(160, none)
			}
			wrong(t, "another number of kids, which are wrong, too", e, 100, api.ErrType)
		}
	}
	for n := range 10 {
		has(t, "a list of kids", list(100, truth, slices.Repeat([]api.Expr{yes(101)}, n)...), listOf(truth))
	}
}

// TestKinds has kinds and operations that do not exist.
func TestKinds(t *testing.T) {
	for _, n := range []int{-1, api.NFold + 1, api.NFold + 2, math.MinInt, math.MaxInt} {
		for _, kids := range [][]api.Expr{nil, {num(101)}, {num(101), num(102)}, {yes(101), num(102), num(103)}} {
			wrong(t, "a kind that does not exist", node(100, n, 0, recP, kids...), 100, api.ErrType)
		}
	}
	for _, n := range []int{-1, api.Len + 1, api.Len + 2, math.MinInt, math.MaxInt} {
		for _, kids := range [][]api.Expr{nil, {num(101)}, {num(101), num(102)}, {v(101, ints)}, {yes(101), yes(102), yes(103)}} {
			wrong(t, "an operation that does not exist", op(100, n, kids...), 100, api.ErrType)
		}
	}
}

func TestNumbers(t *testing.T) {
	for _, n := range []int{0, 1, -1, 1 << 40, -1 << 40, 1<<40 - 1, 1 - 1<<40} {
		has(t, "a number", node(100, api.NInt, n, 0), whole)
	}
	for _, n := range []int{1<<40 + 1, -1<<40 - 1, 1 << 41, math.MinInt, math.MaxInt} {
		wrong(t, "a number that does not exist", node(100, api.NInt, n, 0), 100, api.ErrType)
		wrong(t, "a number that does not exist, in a kid", op(100, api.Not, node(101, api.NInt, n, 0)), 101, api.ErrType)
	}
	for _, n := range []int{0, 1} {
		has(t, "a truth value", node(100, api.NBool, n, 0), truth)
	}
	for _, n := range []int{-1, 2, 3, math.MinInt, math.MaxInt} {
		wrong(t, "a truth value that does not exist", node(100, api.NBool, n, 0), 100, api.ErrType)
	}
}

// TestPlaces has the places of fields and cases.
func TestPlaces(t *testing.T) {
	for ref, n := range map[int]int{recP: 2, recB: 3, recE: 0, caseS: 3, caseE: 0, twice: 1} {
		d := world().Defs[ref-1]
		for _, place := range []int{math.MinInt, -1, 0, 1, 2, 3, 7, math.MaxInt} {
			e := field(100, ref, place, v(101, ref+60))
			want := of(ref)
			if d.Kind == api.KCase {
				e = one(100, ref, place, v(101, ref+60))
			}
			if place < 0 || place >= n {
				wrong(t, "a place where there is no slot", e, 100, api.ErrType)
				e.Kids[0] = v(102, none)
				wrong(t, "a place where there is no slot, with a wrong kid", e, 100, api.ErrType)
				continue
			}
			bound := types.Bound{ID: id(ref + 60), Type: of(ref)}
			if d.Kind == api.KCase {
				bound.Type = d.Slots[place].Type
			} else {
				want = d.Slots[place].Type
			}
			if got, at, code := types.Infer(world(), []types.Bound{bound}, e); !sameType(got, want) || at != (api.ID{}) || code != api.OK {
				t.Errorf("P9.1: the place %d of %s has the type %v, the error %d", place, d.Name, got, code)
			}
		}
	}
}

func TestVariables(t *testing.T) {
	l := []types.Bound{{ID: id(1), Type: truth}, {ID: id(1), N: 1}, {ID: id(2), Type: of(recP)}, {ID: id(1), N: 1, Type: listOf(truth)}, {ID: id(2), Type: of(recB)}, {ID: id(2), N: -7, Type: api.Type{Kind: -3}}, {Type: truth}, {ID: id(2), Type: of(none)}}
	p := world()
	for _, x := range []struct {
		ref  api.ID
		n    int
		want api.Type
		code api.Errno
	}{
		{id(1), 0, truth, api.OK},
		{id(1), 1, listOf(truth), api.OK},
		{id(2), 0, of(none), api.OK},
		{id(2), -7, api.Type{Kind: -3}, api.OK},
		{api.ID{}, 0, truth, api.OK},
		{id(1), 2, whole, api.ErrDead},
		{id(1), -1, whole, api.ErrDead},
		{id(2), 1, whole, api.ErrDead},
		{id(3), 0, whole, api.ErrDead},
		{api.ID{}, 1, whole, api.ErrDead},
		{api.ID{Shop: 2, Seq: 2, Index: 1}, 0, whole, api.ErrDead},
		{api.ID{Shop: 1, Seq: 1, Index: 1}, 0, whole, api.ErrDead},
	} {
		e := api.Expr{ID: id(100), Kind: api.NVar, Ref: x.ref, N: x.n}
		at := id(100)
		if x.code == api.OK {
			at = api.ID{}
		}
		if got, n, code := types.Infer(p, l, e); !sameType(got, x.want) || n != at || code != x.code {
			t.Errorf("P9.1: the variable %v, %d has the type %v, the error %d at %v", x.ref, x.n, got, code, n)
		}
		if _, n, code := types.Infer(p, nil, e); n != id(100) || code != api.ErrDead {
			t.Errorf("P9.1: the variable %v, %d, which is not bound, has the error %d at %v", x.ref, x.n, code, n)
		}
	}
	// What a node binds counts before what is bound around it, and what is bound further inside before that.
	l = []types.Bound{{ID: id(1), Type: truth}, {ID: id(1), N: 1, Type: truth}}
	for what, x := range map[string]struct {
		e    api.Expr
		want api.Type
	}{
		"a let with the ID of a slot":            {let(1, num(2), v(3, 1)), whole},
		"the other name":                         {let(1, num(2), vn(3, 1, 1)), truth},
		"a let in a let with its ID":             {let(1, num(2), let(1, v(3, 1), list(4, whole, v(5, 1)))), listOf(whole)},
		"a let behind which the name is another": {op(6, api.Or, let(1, num(2), op(3, api.Less, v(4, 1), v(4, 1))), v(5, 1)), truth},
		"a let in the value of a let":            {let(1, let(1, num(2), list(3, whole, v(4, 1))), v(5, 1)), listOf(whole)},
		"a fold with the ID of a slot":           {fold(1, list(2, listOf(whole)), num(3), op(4, api.Add, vn(5, 1, 1), op(6, api.Len, v(7, 1)))), whole},
	} {
		if got, n, code := types.Infer(p, l, x.e); !sameType(got, x.want) || code != api.OK {
			t.Errorf("P9.1: %s has the type %v, the error %d at %v", what, got, code, n)
		}
	}
}

// TestReferences has references of each kind of node to each definition and to none.
func TestReferences(t *testing.T) {
	right := map[int][]int{api.NCall: {funF, funN, convC, funD}, api.NRec: {recP, recB, recE, recD, twice}, api.NField: {recP, recB, recE, recD, twice}, api.NCase: {caseS, caseE, caseD}, api.NMatch: {caseS, caseE, caseD}}
	for kind, l := range right {
		for ref := range none + 2 {
			for kids := range 5 {
				e := node(100, kind, 0, ref, slices.Repeat([]api.Expr{v(101, none)}, kids)...)
				switch known := slices.Contains(l, ref); {
				case kids != 1 && (kind == api.NField || kind == api.NCase):
					wrong(t, "too many or too few kids, and any reference", e, 100, api.ErrType)
				case !known:
					wrong(t, "a reference to no definition of the right kind", e, 100, api.ErrDead)
				default:
					at, want, d := 100, api.ErrType, world().Defs[ref-1]
					fits := map[int]bool{api.NCall: kids == len(d.Slots), api.NRec: kids == len(d.Slots), api.NMatch: kids == len(d.Slots)+1}
					if f, ok := fits[kind]; ok && f || !ok && len(d.Slots) > 0 {
						at, want = 101, api.ErrDead
					}
					if kind == api.NMatch && len(d.Slots) == 0 {
						at, want = 100, api.ErrType
					}
					if (kind == api.NCall || kind == api.NRec) && kids == 0 && len(d.Slots) == 0 {
						continue // it has a type
					}
					wrong(t, "a reference to a definition of the right kind", e, at, want)
				}
			}
		}
	}
}

// TestListTypes has types that are valid, and such that are not.
func TestListTypes(t *testing.T) {
	deep := whole
	for range 23 {
		deep = listOf(deep)
	}
	for _, x := range []api.Type{whole, truth, of(recP), of(caseS), of(recE), of(caseE), of(recD), listOf(of(caseS)), of(twice), deep} {
		has(t, "a list of a valid type", list(100, x), listOf(x))
	}
	for _, x := range []api.Type{
		listOf(deep), of(none), of(funF), of(convC), of(onO), of(testT), of(nine), {Kind: api.TDef}, {Kind: -1}, {Kind: 4}, {Kind: api.TList},
		{Kind: api.TList, Kids: []api.Type{whole, whole}}, {Def: id(recP)}, {Kind: api.TBool, Kids: []api.Type{whole}}, {Kind: api.TDef, Def: id(recP), Kids: []api.Type{whole}},
		{Kind: api.TList, Def: id(recP), Kids: []api.Type{whole}}, listOf(of(none)), listOf(listOf(of(funF))),
	} {
		wrong(t, "a list of a type that is not valid", list(100, x), 100, api.ErrDead)
		wrong(t, "a list of a type that is not valid, with kids", list(100, x, op(101, -1)), 100, api.ErrDead)
	}
}
