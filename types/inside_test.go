package types_test

import (
	"reflect"
	"slices"
	"testing"

	"splicery/api"
	"splicery/types"
)

// inside checks what Inside returns for an expression in the world: what is bound behind l, and the node.
func inside(t *testing.T, what string, l []types.Bound, e api.Expr, n int, more []types.Bound, node api.Expr) {
	t.Helper()
	got, found, ok := types.Inside(world(), l, e, id(n))
	if !ok || !reflect.DeepEqual(found, node) || !slices.EqualFunc(got, slices.Concat(l, more), sameBound) {
		t.Errorf("P9.3: %s: Inside returns %v, %+v, %v", what, got, found, ok)
	}
}

// outside checks that Inside finds nothing.
func outside(t *testing.T, what string, e api.Expr, n int) {
	t.Helper()
	if got, found, ok := types.Inside(world(), around(), e, id(n)); len(got) > 0 || !reflect.DeepEqual(found, api.Expr{}) || ok {
		t.Errorf("P9.3: %s: Inside returns %v, %+v, %v, not nothing", what, got, found, ok)
	}
}

// TestInsideBinders has what each kind of node binds in each of its kids.
func TestInsideBinders(t *testing.T) {
	for _, x := range proper() {
		inside(t, "the node itself", around(), x.e, 100, nil, x.e)
		for i, kid := range x.e.Kids {
			var want []types.Bound
			switch {
			case x.e.Kind == api.NLet && i == 1:
				first, _, _ := types.Infer(world(), around(), x.e.Kids[0])
				want = []types.Bound{{ID: id(100), Type: first}}
			case x.e.Kind == api.NFold && i == 2:
				items, _, _ := types.Infer(world(), around(), x.e.Kids[0])
				want = []types.Bound{{ID: id(100), Type: items.Kids[0]}, {ID: id(100), N: 1, Type: x.t}}
			case x.e.Kind == api.NMatch && i > 0:
				want = []types.Bound{{ID: id(100), N: i - 1, Type: []api.Type{whole, truth, of(recP)}[i-1]}}
			}
			n := slices.IndexFunc(x.e.Kids, func(k api.Expr) bool { return k.ID == kid.ID })
			if n == i {
				inside(t, "a kid", around(), x.e, kid.ID.Index, want, kid)
			}
		}
		outside(t, "an ID that no node has", x.e, 99)
	}
	inside(t, "no bounds", nil, num(100), 100, nil, num(100))
	if _, _, ok := types.Inside(world(), nil, num(100), api.ID{Shop: 1, Seq: 1, Index: 100}); ok {
		t.Error("P9.3: Inside finds an ID with another Seq")
	}
}

// nested has a let, a fold and a match inside of one another, with the ID of the innermost node 300.
func nested(innermost api.Expr) api.Expr {
	return let(100, v(101, lists),
		fold(102, v(103, 100), yes(104),
			match(105, caseS, one(106, caseS, 2, rec(107, recP, num(108), num(109))),
				vn(110, 102, 1),
				vn(111, 105, 1),
				let(112, field(113, recP, 1, vn(114, 105, 2)), innermost))))
}

func TestInsideNested(t *testing.T) {
	ofLet := types.Bound{ID: id(100), Type: listOf(listOf(of(recP)))}
	ofFold := []types.Bound{{ID: id(102), Type: listOf(of(recP))}, {ID: id(102), N: 1, Type: truth}}
	ofMatch := func(n int, x api.Type) types.Bound { return types.Bound{ID: id(105), N: n, Type: x} }
	all := []types.Bound{ofLet, ofFold[0], ofFold[1], ofMatch(2, of(recP)), {ID: id(112)}}
	for _, innermost := range []api.Expr{yes(300), v(300, none), op(300, 44, num(301)), op(300, api.Less, v(301, 112), num(302))} {
		e := nested(innermost)
		for n, want := range map[int][]types.Bound{
			100: nil, 101: nil, 102: all[:1], 103: all[:1], 104: all[:1], 105: all[:3], 106: all[:3], 107: all[:3], 109: all[:3],
			110: {ofLet, ofFold[0], ofFold[1], ofMatch(0, whole)}, 111: {ofLet, ofFold[0], ofFold[1], ofMatch(1, truth)}, 112: all[:4], 113: all[:4], 114: all[:4], 300: all,
		} {
			paths := pathsByRule(e)
			at := slices.IndexFunc(paths, func(path []int) bool { return nodeAt(e, path).ID == id(n) })
			inside(t, "a nested node", around(), e, n, want, nodeAt(e, paths[at]))
			inside(t, "a nested node, with another order", slices.Concat(around()[3:], around()), e, n, want, nodeAt(e, paths[at]))
		}
	}
	// A node may bind what is bound around it once more: both are there, and the second one counts.
	e := let(100, num(101), let(100, op(102, api.Less, v(103, 100), num(104)), let(31, v(105, 100), num(300))))
	inside(t, "lets with one ID", around(), e, 105, []types.Bound{{ID: id(100)}, {ID: id(100), Type: truth}}, v(105, 100))
	inside(t, "a let with the ID of a slot", around(), e, 300, []types.Bound{{ID: id(100)}, {ID: id(100), Type: truth}, {ID: id(anInt), Type: truth}}, num(300))
}

// TestInsideErrors has errors in the nodes around a node, in the kids before it, in it, and behind it.
func TestInsideErrors(t *testing.T) {
	bad := map[string]api.Expr{"dead": v(200, none), "wrong": op(200, api.Add), "of another type": v(200, lists)}
	for what, x := range bad {
		target := num(300)
		inside(t, what+" behind", around(), op(100, api.Add, target, x), 300, nil, target)
		inside(t, what+" behind in a list", around(), list(100, whole, num(101), target, num(102), x), 300, nil, target)
		inside(t, what+" behind in a condition", around(), cond(100, target, x, x), 300, nil, target)
		inside(t, what+" in the body of a let", around(), let(100, target, x), 300, nil, target)
		inside(t, what+" in the other cases", around(), match(100, caseS, v(101, aS), num(102), target, x), 300, []types.Bound{{ID: id(100), N: 1, Type: truth}}, target)
		outside(t, what+" before", op(100, api.Add, x, target), 300)
		outside(t, what+" before in a list", list(100, whole, num(101), x, target), 300)
		outside(t, what+" before in a condition", cond(100, x, target, num(101)), 300)
		outside(t, what+" before in a record", rec(100, recP, x, target), 300)
		outside(t, what+" before in a call", call(100, funF, x, target), 300)
		outside(t, what+" before in a fold", fold(100, op(101, api.Add, x, num(102)), target, num(103)), 300)
		outside(t, what+" in a case before", match(100, caseS, v(101, aS), num(102), x, target), 300)
		outside(t, what+" before in a node around", op(100, api.Add, x, op(101, api.Add, num(102), target)), 300)
		inside(t, what+" before in a node beside", around(), op(100, api.Add, op(101, api.Add, num(102), target), op(103, api.Add, x, num(104))), 300, nil, target)
		// The node itself may be wrong, and have another type.
		for _, e := range []api.Expr{op(100, api.Not, x), cond(100, x, num(1), num(1)), field(100, recP, 1, x), list(100, of(caseS), x), op(100, api.Add, num(1), x), fold(100, v(101, ints), num(102), op(103, api.Add, num(104), x)), match(100, caseS, x, num(101), num(102), num(103))} {
			got, found, ok := types.Inside(world(), around(), e, id(200))
			if !ok || !reflect.DeepEqual(found, x) || len(got) < len(around()) {
				t.Errorf("P9.3: %s: the node itself in %+v is not found: %v, %+v, %v", what, e, got, found, ok)
			}
		}
		// A let's value of any type is right, but not a dead one.
		if what == "of another type" {
			inside(t, what+" in the value of a let", around(), let(100, x, target), 300, []types.Bound{{ID: id(100), Type: listOf(listOf(of(recP)))}}, target)
		} else {
			outside(t, what+" in the value of a let", let(100, x, target), 300)
		}
	}
	target := num(300)
	for what, e := range map[string]api.Expr{
		"a variable with kids":                node(100, api.NVar, 0, anInt, target),
		"a variable that is not bound":        node(100, api.NVar, 0, none, target),
		"a number with kids":                  node(100, api.NInt, 0, 0, target),
		"a truth value with kids":             node(100, api.NBool, 0, 0, target),
		"a kind that does not exist":          node(100, 13, 0, 0, target),
		"a kind below all":                    node(100, -1, 0, 0, target),
		"an operation that does not exist":    op(100, 12, target, num(101)),
		"an operation with too few kids":      op(100, api.Add, target),
		"an operation with too many kids":     op(100, api.Not, target, num(101)),
		"a let with too many kids":            let(100, target, num(101), num(102)),
		"a fold with too few kids":            fold(100, target, num(101)),
		"a call of nothing":                   call(100, none, target),
		"a call with too many kids":           call(100, funN, target),
		"a record with too few kids":          rec(100, recP, target),
		"a field with no place":               field(100, recP, 2, target),
		"a case with no place":                one(100, caseS, -1, target),
		"a match of a record":                 match(100, recP, target, num(101), num(102)),
		"a match of a variant without slots":  match(100, caseE, target),
		"a match with too few cases":          match(100, caseS, target, num(101), num(102)),
		"a list of no type":                   list(100, of(none), target),
		"a wrong node around a right one":     op(100, 12, op(101, api.Add, target, num(102)), num(103)),
		"a wrong node in a right one":         op(100, api.Add, op(101, 12, target, num(102)), num(103)),
		"a match with another value":          match(100, caseS, v(101, aP), target, num(102), num(103)),
		"a match with a case of another type": match(100, caseS, v(101, aS), num(102), yes(103), target),
		"a fold over a number":                fold(100, num(101), num(102), target),
		"a fold over a number, in the start":  fold(100, num(101), target, num(102)),
	} {
		outside(t, what, e, 300)
	}
	// In the value, the first case and the step no type has been asked for yet.
	inside(t, "a value of a match", around(), match(100, caseS, target, num(101), num(102), num(103)), 300, nil, target)
	inside(t, "a step of another type", around(), fold(100, v(101, bools), v(102, aP), target), 300, []types.Bound{{ID: id(100), Type: truth}, {ID: id(100), N: 1, Type: of(recP)}}, target)
}

// TestInsideSeveral has IDs that several nodes have: the first one in preorder counts.
func TestInsideSeveral(t *testing.T) {
	first := op(300, api.Add, num(300), num(101))
	inside(t, "a node and its kid", around(), first, 300, nil, first)
	inside(t, "a node in a first kid", around(), op(100, api.Add, op(101, api.Add, num(102), num(300)), yes(300)), 300, nil, num(300))
	inside(t, "a second one whose node is wrong", around(), cond(100, yes(300), op(101, 12, num(300)), num(300)), 300, nil, yes(300))
	outside(t, "a first one in a wrong node, and a second one in a right one", op(100, api.Add, op(101, 12, num(300)), num(300)), 300)
	outside(t, "a first one in a variable, and a second one", op(100, api.Add, node(101, api.NVar, 0, anInt, num(300)), num(300)), 300)
	e := let(100, num(101), let(102, yes(103), num(300)))
	inside(t, "one in a let of a let", around(), op(104, api.Add, e, num(300)), 300, []types.Bound{{ID: id(100)}, {ID: id(102), Type: truth}}, num(300))
	zero := api.Expr{Kind: api.NOp, N: api.Not, Kids: []api.Expr{{}}}
	if l, got, ok := types.Inside(api.Prog{}, nil, zero, api.ID{}); !ok || len(l) > 0 || !reflect.DeepEqual(got, zero) {
		t.Errorf("P9.3: the node with the zero ID is %+v, %v", got, ok)
	}
}
