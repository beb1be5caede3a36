package types_test

import (
	"slices"
	"testing"

	"splicery/api"
	"splicery/types"
)

// ofType returns an expression of each of some types, with IDs from n on.
func ofType(n int) []struct {
	e api.Expr
	t api.Type
} {
	return []struct {
		e api.Expr
		t api.Type
	}{
		{num(n), whole}, {yes(n), truth}, {v(n, ints), listOf(whole)}, {list(n, truth), listOf(truth)}, {rec(n, recP, num(n+1), num(n+2)), of(recP)}, {v(n, aB), of(recB)}, {one(n, caseS, 1, yes(n+1)), of(caseS)}, {v(n, lists), listOf(listOf(of(recP)))},
	}
}

// TestDemands puts an expression of each type in the place of each kid.
func TestDemands(t *testing.T) {
	p, l := world(), around()
	right, others := 0, 0
	for _, x := range proper() {
		for i := range x.e.Kids {
			before, _, code := kidsByRule(p, l, x.e, i)
			if code != api.OK {
				t.Fatalf("%+v is not proper", x.e)
			}
			demands := demandsByRule(p, x.e)
			for _, y := range ofType(200) {
				e := x.e
				e.Kids = slices.Clone(e.Kids)
				e.Kids[i] = y.e
				if !demands[i].accepts(before, y.t) {
					wrong(t, "a kid of another type", e, 200, api.ErrType)
					for j := i + 1; j < len(e.Kids); j++ {
						e.Kids[j] = v(300, none)
					}
					wrong(t, "a kid of another type, before kids that are wrong", e, 200, api.ErrType)
					others++
					continue
				}
				right++
				if want := x.t; i == len(e.Kids)-1 {
					if e.Kind == api.NLet {
						want = y.t
					}
					has(t, "a kid of the right type", e, want)
				}
			}
			e := x.e
			e.Kids = slices.Clone(e.Kids)
			e.Kids[i] = v(200, none)
			wrong(t, "a wrong kid", e, 200, api.ErrDead)
			e.Kids[i] = cond(201, yes(202), num(203), op(200, api.Add))
			wrong(t, "a wrong node in a kid", e, 200, api.ErrType)
		}
	}
	if right < 40 || others < 200 {
		t.Errorf("%d kids have right types, %d others", right, others)
	}
}

// TestOrder has expressions with several errors.
func TestOrder(t *testing.T) {
	dead := v(200, none)
	for what, x := range map[string]struct {
		e    api.Expr
		n    int
		code api.Errno
	}{
		"a variable with a kid that is not bound":                    {node(100, api.NVar, 0, none, dead), 100, api.ErrType},
		"a field of no record with two kids":                         {field(100, none, -1, dead, dead), 100, api.ErrType},
		"a field of no record with no place":                         {field(100, none, -1, dead), 100, api.ErrDead},
		"a field of a variant with no place":                         {field(100, caseS, 9, dead), 100, api.ErrDead},
		"a case of no variant with two kids":                         {one(100, none, 9, dead, dead), 100, api.ErrType},
		"a case of no variant with no place":                         {one(100, none, 9, dead), 100, api.ErrDead},
		"a case of a record with no place":                           {one(100, recP, 9, dead), 100, api.ErrDead},
		"a case of a variant without slots":                          {one(100, caseE, 0, dead), 100, api.ErrType},
		"a field of a record without slots":                          {field(100, recE, 0, dead), 100, api.ErrType},
		"a field with no place and a dead kid":                       {field(100, recP, 2, dead), 100, api.ErrType},
		"a call of nothing with kids":                                {call(100, none, dead), 100, api.ErrDead},
		"a call of a record with as many kids":                       {call(100, recP, dead, dead), 100, api.ErrDead},
		"a call of a handler":                                        {call(100, onO, num(101), v(102, aS)), 100, api.ErrDead},
		"a call of a test":                                           {call(100, testT, num(101)), 100, api.ErrDead},
		"a call with too many kids, of which one is dead":            {call(100, funN, dead), 100, api.ErrType},
		"a call with too few kids":                                   {call(100, funF, dead), 100, api.ErrType},
		"a call whose second kid is wrong, and the first one's type": {call(100, funF, yes(101), dead), 101, api.ErrType},
		"a call whose first kid is dead, and the second one's type":  {call(100, funF, dead, num(101)), 200, api.ErrDead},
		"a record of a variant with no kids":                         {rec(100, caseS), 100, api.ErrDead},
		"a record of the second definition with an ID":               {match(100, twice, rec(101, twice, yes(102)), num(103), num(104)), 100, api.ErrDead},
		"a match of no variant with no kids":                         {match(100, none), 100, api.ErrDead},
		"a match of a record with as many kids":                      {match(100, recP, v(101, aP), num(102), num(103)), 100, api.ErrDead},
		"a match of a variant without slots, without kids":           {match(100, caseE), 100, api.ErrType},
		"a match of a variant without slots, with one kid":           {match(100, caseE, dead), 100, api.ErrType},
		"a match of a variant without slots, with two kids":          {match(100, caseE, dead, dead), 100, api.ErrType},
		"a match without cases":                                      {match(100, caseS, dead), 100, api.ErrType},
		"a match with a case for each slot but one":                  {match(100, caseS, dead, dead, dead), 100, api.ErrType},
		"a match with a case too much":                               {match(100, caseS, dead, dead, dead, dead, dead), 100, api.ErrType},
		"a match whose value has another type, and dead cases":       {match(100, caseS, v(101, aP), dead, dead, dead), 101, api.ErrType},
		"a match whose third case is another, and the fourth dead":   {match(100, caseS, v(101, aS), num(102), yes(103), dead), 103, api.ErrType},
		"a match whose last case is another":                         {match(100, caseS, v(101, aS), num(102), num(103), yes(104)), 104, api.ErrType},
		"an operation with too few kids, which are dead":             {op(100, api.Add, dead), 100, api.ErrType},
		"an operation that does not exist, with dead kids":           {op(100, 12, dead, dead), 100, api.ErrType},
		"an operation with two wrong kids":                           {op(100, api.And, num(101), num(102)), 101, api.ErrType},
		"Same of different types":                                    {op(100, api.Same, num(101), yes(102)), 102, api.ErrType},
		"Join of different lists":                                    {op(100, api.Join, v(101, ints), v(102, bools)), 102, api.ErrType},
		"Join of numbers":                                            {op(100, api.Join, num(101), num(102)), 101, api.ErrType},
		"Len of a number":                                            {op(100, api.Len, num(101)), 101, api.ErrType},
		"a list of no type with dead kids":                           {list(100, of(none), dead), 100, api.ErrDead},
		"a list with a kid of another type before a dead one":        {list(100, whole, num(101), yes(102), dead), 102, api.ErrType},
		"a condition that is a number, before dead kids":             {cond(100, num(101), dead, dead), 101, api.ErrType},
		"a condition with different parts":                           {cond(100, yes(101), num(102), yes(103)), 103, api.ErrType},
		"a fold over a number, before dead kids":                     {fold(100, num(101), dead, dead), 101, api.ErrType},
		"a fold whose step has another type":                         {fold(100, v(101, ints), yes(102), num(103)), 103, api.ErrType},
		"a fold whose step is dead, and the list none":               {fold(100, num(101), yes(102), dead), 101, api.ErrType},
		"an error in a kid before the type of another kid":           {op(100, api.Add, op(101, api.Add, num(102), dead), yes(103)), 200, api.ErrDead},
		"a type of a kid before an error in another one":             {op(100, api.Add, op(101, api.Less, num(102), num(103)), dead), 101, api.ErrType},
		"a wrong kid of a kid, and a wrong kid":                      {cond(100, op(101, api.Not, num(102)), dead, dead), 102, api.ErrType},
		"a let whose value is dead, and whose body is wrong":         {let(100, dead, op(101, 99)), 200, api.ErrDead},
		"a kind that does not exist in a kid":                        {let(100, num(101), node(102, 13, 0, 0, dead)), 102, api.ErrType},
		"a name that is not bound in the value of its let":           {let(100, v(200, 100), num(101)), 200, api.ErrDead},
		"a second name of a let":                                     {let(100, num(101), vn(200, 100, 1)), 200, api.ErrDead},
		"a name that is not bound in the list of its fold":           {fold(100, v(200, 100), num(101), num(102)), 200, api.ErrDead},
		"a name that is not bound in the start of its fold":          {fold(100, v(101, ints), v(200, 100), num(102)), 200, api.ErrDead},
		"a third name of a fold":                                     {fold(100, v(101, ints), num(102), vn(200, 100, 2)), 200, api.ErrDead},
		"a name that is not bound in the value of its match":         {match(100, caseS, v(200, 100), num(101), num(102), num(103)), 200, api.ErrDead},
		"a name of another case of a match":                          {match(100, caseS, v(101, aS), num(102), vn(200, 100, 0), num(103)), 200, api.ErrDead},
		"a name of the case before in a match":                       {match(100, caseS, v(101, aS), vn(200, 100, 1), num(102), num(103)), 200, api.ErrDead},
		"a name of a condition":                                      {cond(100, yes(101), num(102), v(200, 100)), 200, api.ErrDead},
		"a name behind its let":                                      {op(100, api.Add, let(101, num(102), v(103, 101)), v(200, 101)), 200, api.ErrDead},
	} {
		wrong(t, what, x.e, x.n, x.code)
		wrong(t, what+" in a list", list(400, listOf(whole), v(401, ints), x.e), x.n, x.code)
	}
}

// TestNotSound has definitions whose types are not valid: only whether these are equal counts.
func TestNotSound(t *testing.T) {
	fieldOf := func(n, place int) api.Expr { return field(n, recD, place, v(n+1, aD)) }
	dead := []api.Type{of(none), {Kind: api.TList}, {Kind: 9}, whole}
	for i, x := range dead {
		has(t, "a field", fieldOf(100, i), x)
		has(t, "a let of a type that is not valid", let(102, fieldOf(100, i), v(103, 102)), x)
		has(t, "parts of a type that is not valid", cond(102, yes(103), fieldOf(100, i), fieldOf(104, i)), x)
		has(t, "Same of a type that is not valid", op(102, api.Same, fieldOf(100, i), fieldOf(104, i)), truth)
		wrong(t, "Same of another type", op(102, api.Same, fieldOf(100, i), fieldOf(104, (i+1)%4)), 104, api.ErrType)
	}
	kids := []api.Expr{fieldOf(100, 0), fieldOf(102, 1), fieldOf(104, 2), num(106)}
	has(t, "a record of types that are not valid", rec(107, recD, kids...), of(recD))
	kids[1] = list(108, whole)
	wrong(t, "a record with another kid", rec(107, recD, kids...), 108, api.ErrType)
	has(t, "a call of a function whose types are not valid", call(102, funD, fieldOf(100, 0)), api.Type{Kind: -1, Def: id(3), Kids: []api.Type{truth}})
	has(t, "a case of a type that is not valid", one(102, caseD, 0, fieldOf(100, 0)), of(caseD))
	wrong(t, "a case of another type", one(102, caseD, 1, fieldOf(100, 0)), 100, api.ErrType)
	for _, place := range []int{0, 1, 2, 3} {
		wrong(t, "Len of a type without a kid", op(102, api.Len, fieldOf(100, place)), 100, api.ErrType)
		wrong(t, "a fold over a type without a kid", fold(102, fieldOf(100, place), num(103), num(104)), 100, api.ErrType)
	}
	matched := func(e api.Expr) api.Expr { return match(110, caseD, one(111, caseD, 0, fieldOf(100, 0)), num(112), e) }
	two := vn(113, 110, 1)
	has(t, "a case whose type has two kids", matched(let(114, two, num(115))), whole)
	wrong(t, "Len of a list with two kids", matched(op(114, api.Len, two)), 113, api.ErrType)
	wrong(t, "Join of lists with two kids", matched(op(114, api.Join, two, two)), 113, api.ErrType)
	wrong(t, "a fold over a list with two kids", matched(fold(114, two, num(115), num(116))), 113, api.ErrType)
	// A list may have a type that is deeper than a valid one, or another definition: Len asks only for a list.
	odd := api.Type{Kind: api.TList, Def: id(recP), Kids: []api.Type{{Kind: 7}}}
	l := []types.Bound{{ID: id(1), Type: odd}}
	for _, x := range []struct {
		e api.Expr
		t api.Type
	}{{op(2, api.Len, v(3, 1)), whole}, {op(2, api.Join, v(3, 1), v(4, 1)), odd}, {fold(2, v(3, 1), list(5, whole), list(6, whole)), listOf(whole)}, {let(2, fold(7, v(3, 1), num(4), vn(5, 7, 1)), v(8, 1)), odd}} {
		if got, n, code := types.Infer(world(), l, x.e); !sameType(got, x.t) || n != (api.ID{}) || code != api.OK {
			t.Errorf("P9.1: %+v has the type %v, the error %d at %v", x.e, got, code, n)
		}
	}
	for _, x := range []api.Type{{Kind: api.TBool, Def: id(1)}, {Kind: api.TBool, Kids: []api.Type{whole}}, {Kind: 5}} {
		l := []types.Bound{{ID: id(1), Type: x}}
		if _, n, code := types.Infer(world(), l, cond(2, v(3, 1), num(4), num(5))); n != id(3) || code != api.ErrType {
			t.Errorf("P9.1: the type %v is a condition: the error %d at %v", x, code, n)
		}
		if _, code := types.Fits(world(), l, v(3, 1), x); code != api.OK {
			t.Errorf("P9.2: a variable does not fit its type %v", x)
		}
		if n, code := types.Fits(world(), l, v(3, 1), api.Type{Kind: x.Kind}); x.Kind == api.TBool && (n != id(3) || code != api.ErrType) {
			t.Errorf("P9.2: a variable of the type %v fits another one", x)
		}
	}
}
