package types_test

import (
	"slices"
	"strconv"
	"strings"
	"testing"

	"splicery/api"
	"splicery/types"
)

// written returns the indices and numbers of names.
func written(l []types.Bound) string {
	var s []string
	for _, x := range l {
		s = append(s, strconv.Itoa(x.ID.Index)+"."+strconv.Itoa(x.N))
	}
	return strings.Join(s, " ")
}

func TestFree(t *testing.T) {
	for what, x := range map[string]struct {
		e    api.Expr
		want string
	}{
		"a number":                     {num(1), ""},
		"a variable":                   {v(1, 2), "2.0"},
		"a variable with a number":     {vn(1, 2, 3), "2.3"},
		"a variable that means itself": {v(1, 1), "1.0"},
		"the zero expression":          {api.Expr{}, ""},
		"variables that occur twice":   {op(1, api.Add, v(2, 5), op(3, api.Add, v(4, 5), vn(6, 5, 1))), "5.0 5.1"},
		"variables in order":           {list(1, whole, v(2, 9), vn(3, 8, 7), v(4, 8), vn(5, 8, -1), v(6, 9)), "8.-1 8.0 8.7 9.0"},
		"a let":                        {let(1, v(2, 5), v(3, 1)), "5.0"},
		"a let in its value":           {let(1, v(2, 1), v(3, 1)), "1.0"},
		"a second name of a let":       {let(1, num(2), vn(3, 1, 1)), "1.1"},
		"a third kid of a let":         {let(1, num(2), num(3), v(4, 1)), "1.0"},
		"a let deep in a let":          {let(1, num(2), cond(3, let(4, v(5, 1), v(6, 4)), v(7, 1), v(8, 4))), "4.0"},
		"a let behind a let":           {op(1, api.Add, let(2, num(3), v(4, 2)), v(5, 2)), "2.0"},
		"a let before a let":           {op(1, api.Add, v(5, 2), let(2, num(3), v(4, 2))), "2.0"},
		"two lets with one ID":         {let(1, num(2), let(1, v(3, 1), v(4, 1))), ""},
		"behind the inner one of two":  {let(1, num(2), op(3, api.Add, let(1, v(4, 1), v(5, 1)), v(6, 1))), ""},
		"two beside one another":       {op(1, api.Add, let(2, v(3, 2), v(4, 2)), let(2, num(5), v(6, 2))), "2.0"},
		"a fold":                       {fold(1, v(2, 1), vn(3, 1, 1), op(4, api.Add, v(5, 1), vn(6, 1, 1))), "1.0 1.1"},
		"a fold's step":                {fold(1, num(2), num(3), list(4, whole, v(5, 1), vn(6, 1, 1), vn(7, 1, 2), vn(8, 1, -1))), "1.-1 1.2"},
		"a fourth kid of a fold":       {fold(1, num(2), num(3), num(4), v(5, 1)), "1.0"},
		"a fold with two kids":         {fold(1, v(2, 1), vn(3, 1, 1)), "1.0 1.1"},
		"a match":                      {match(1, 9, v(2, 1), v(3, 1), vn(4, 1, 1), vn(5, 1, 2)), "1.0"},
		"other names in a match":       {match(1, 9, num(2), vn(3, 1, 1), vn(4, 1, 0), vn(5, 1, 0)), "1.0 1.1"},
		"a long match":                 {match(1, 9, slices.Repeat([]api.Expr{vn(2, 1, 11)}, 13)...), "1.11"},
		"a match of 12 cases":          {match(1, 9, append(slices.Repeat([]api.Expr{num(2)}, 12), vn(3, 1, 11))...), ""},
		"a value of a match":           {match(1, 9, vn(2, 1, -1)), "1.-1"},
		"a let in a match in a fold":   {fold(1, v(2, 20), num(3), match(4, 9, v(5, 1), let(6, v(7, 4), op(8, api.Add, v(9, 6), vn(10, 4, 0))), list(11, whole, vn(12, 4, 1), v(13, 6), vn(14, 1, 1), vn(15, 4, 0)))), "4.0 6.0 20.0"},
		"kids of a variable":           {node(1, api.NVar, 0, 2, v(3, 4), let(5, v(6, 7), num(8))), "2.0"},
		"kids of a number":             {node(1, api.NInt, 0, 0, v(3, 4)), "4.0"},
		"kids of a truth value":        {node(1, api.NBool, 7, 0, v(3, 4)), "4.0"},
		"kids of no kind":              {node(1, 13, 0, 0, v(3, 4), v(5, 1)), "1.0 4.0"},
		"kids of a kind below all":     {node(1, -1, 0, 0, v(3, 4), v(5, 1)), "1.0 4.0"},
		"other kinds bind nothing":     {call(1, 9, v(2, 1), rec(3, 9, v(4, 3), v(5, 3)), field(6, 9, 0, v(7, 6)), one(8, 9, 0, v(9, 8)), cond(10, v(11, 10), v(12, 10), v(13, 10)), op(14, 0, v(15, 14), v(16, 14)), list(17, whole, v(18, 17), v(19, 17))), "1.0 3.0 6.0 8.0 10.0 14.0 17.0"},
		"references of other kinds":    {call(1, 9, rec(2, 8), node(3, api.NInt, 0, 7)), ""},
	} {
		if got := written(types.Free(x.e)); got != x.want {
			t.Errorf("P9.4: %s: Free returns %s, not %s", what, got, x.want)
		}
		if got := written(freeByRule(x.e)); got != x.want {
			t.Errorf("P9.4: %s: by the rule there are %s, not %s", what, got, x.want)
		}
	}
}

// TestFreeOrder has names that differ in one place.
func TestFreeOrder(t *testing.T) {
	var want []types.Bound
	for shop := -1; shop <= 1; shop++ {
		for seq := -1; seq <= 1; seq++ {
			for _, index := range []int{-1 << 63, 2, 10} {
				for _, n := range []int{-1 << 63, 0, 1<<63 - 1} {
					want = append(want, types.Bound{ID: api.ID{Shop: shop, Seq: seq, Index: index}, N: n})
				}
			}
		}
	}
	e := api.Expr{Kind: api.NList}
	for i := range 3 * len(want) {
		x := want[i*50%len(want)]
		e.Kids = append(e.Kids, api.Expr{ID: id(1), Kind: api.NVar, Ref: x.ID, N: x.N, Type: truth})
	}
	if got := types.Free(e); !slices.EqualFunc(got, want, sameBound) {
		t.Errorf("P9.4: Free returns %v, not %v", got, want)
	}
	// A binder whose ID differs in one place binds another name.
	for _, x := range want {
		for _, y := range want {
			e := api.Expr{ID: x.ID, Kind: api.NLet, Kids: []api.Expr{{}, {Kind: api.NVar, Ref: y.ID, N: y.N}}}
			if got := types.Free(e); (len(got) == 0) != (x.ID == y.ID && y.N == 0) {
				t.Errorf("P9.4: Free returns %v for %v in the let %v", got, y, x.ID)
			}
		}
	}
}
