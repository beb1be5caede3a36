package check_test

import (
	"testing"

	"splicery/api"
	"splicery/check"
)

// again checks what Again returns.
func again(t *testing.T, what string, p, q api.Prog, old []api.Conflict, n int, want ...api.Conflict) {
	t.Helper()
	if got, examined := check.Again(p, q, old); !same(got, want) || examined != n {
		t.Errorf("P10.4: %s: Again returns %+v and %d, not %+v and %d", what, got, examined, want, n)
	}
}

// odd returns a conflict of the definitions with these IDs that All would not return.
func odd(code api.Errno, l ...int) api.Conflict {
	return api.Conflict{Code: code, On: id(777), Kind: -3, By: ids(l...)}
}

// TestOld has old conflicts of definitions that are not affected: they are returned, whatever they are.
func TestOld(t *testing.T) {
	p := prog(def(1, api.KRec, whole, api.Expr{}), def(2, api.KFun, whole, num(250)), def(3, api.KFun, whole, yes(350)), def(4, api.KConv, whole, num(450)))
	right := []api.Conflict{conflict(1, api.ErrNeed, 1), conflict(3, api.ErrType, 350), conflict(4, api.ErrArg, 4)}
	again(t, "the right conflicts", p, p, right, 0, right...)
	again(t, "no conflicts", p, p, nil, 0)
	again(t, "some conflicts", p, p, right[1:2], 0, right[1])
	again(t, "conflicts in another order", p, p, []api.Conflict{right[2], right[0], right[1]}, 0, right...)
	again(t, "conflicts that All would not return", p, p, []api.Conflict{odd(api.ErrFuel, 4), odd(api.OK, 2), odd(-9, 1)}, 0, odd(-9, 1), odd(api.OK, 2), odd(api.ErrFuel, 4))
	again(t, "a conflict that is zero but for By", p, p, []api.Conflict{{By: ids(2)}}, 0, api.Conflict{By: ids(2)})
	again(t, "several conflicts for one ID", p, p, []api.Conflict{odd(3, 2), odd(2, 2), right[0], odd(1, 2), odd(9, 1)}, 0, right[0], odd(3, 2))
	again(t, "several conflicts for one ID, of which the first one is zero", p, p, []api.Conflict{{By: ids(3)}, right[1]}, 0, api.Conflict{By: ids(3)})
	again(t, "conflicts of several IDs", p, p, []api.Conflict{odd(3, 2, 3), odd(4, 2, 2), odd(5, 1, 2, 3, 4), right[1]}, 0, right[1])
	again(t, "conflicts of none", p, p, []api.Conflict{odd(3), {Code: api.ErrType, On: id(1), By: []api.ID{}}, {}}, 0)
	again(t, "conflicts of several IDs and of none in front of others", p, p, []api.Conflict{odd(3, 2, 3), odd(8), odd(7, 2), odd(6, 2)}, 0, odd(7, 2))
	again(t, "conflicts of definitions that do not exist", p, p, []api.Conflict{odd(3, none), odd(3, 777), odd(2, 4), {By: []api.ID{{}}}}, 0, odd(2, 4))
	again(t, "no definitions", p, api.Prog{}, right, 0)
	again(t, "no definitions before, and wrong conflicts", api.Prog{}, p, []api.Conflict{odd(1, 1), odd(2, 2), odd(3, 3), odd(4, 4)}, 4, right...)
}

// TestExamined has definitions that are affected: for them old does not count.
func TestExamined(t *testing.T) {
	f, user := def(1, api.KFun, whole, num(150)), def(2, api.KFun, whole, call(250, 1))
	other := def(3, api.KFun, whole, yes(350))
	old := []api.Conflict{odd(1, 1), odd(2, 2), odd(3, 3)}
	again(t, "nothing is changed", prog(f, user, other), prog(f, user, other), old, 0, old...)
	g := f
	g.Body = num(151)
	again(t, "another body", prog(f, user, other), prog(g, user, other), old, 1, old[1:]...)
	g.Body = yes(152)
	again(t, "a wrong body", prog(f, user, other), prog(g, user, other), old, 1, conflict(1, api.ErrType, 152), old[1], old[2])
	g.Result = truth
	again(t, "another result", prog(f, user, other), prog(g, user, other), old, 2, conflict(2, api.ErrType, 250), old[2])
	again(t, "one that is gone", prog(f, user, other), prog(user, other), old, 1, conflict(2, api.ErrDead, 250), old[2])
	again(t, "one that is back", prog(user, other), prog(other, user, f), old, 2, old[2])
	again(t, "one that is new", prog(f, user), prog(other, f, user), old, 1, conflict(3, api.ErrType, 350), old[0], old[1])
}

// TestSeveral has elements of Defs with one ID: each of them is counted, and has a conflict.
func TestSeveral(t *testing.T) {
	bad, good := def(1, api.KFun, whole, yes(150)), def(1, api.KFun, whole, num(150))
	other := def(2, api.KFun, truth, num(250))
	want, two := conflict(1, api.ErrType, 150), conflict(2, api.ErrType, 250)
	again(t, "several that are new", prog(other), prog(bad, other, good, bad), []api.Conflict{two}, 3, want, two, want, want)
	again(t, "several that are new and good", prog(other), prog(good, other, bad, bad), []api.Conflict{two}, 3, two)
	again(t, "several that are changed", prog(good, bad, other), prog(bad, good, other), nil, 2, want, want)
	again(t, "several that are the same", prog(bad, other), prog(bad, other, good, bad), check.All(prog(bad, other)), 0, want, two, want, want)
	again(t, "several that are the same, with several conflicts", prog(bad, bad), prog(bad, good, other), []api.Conflict{odd(1, 1), odd(2, 1), odd(3, 2)}, 1, odd(1, 1), odd(1, 1), two)
	again(t, "several that are the same, without conflicts", prog(good, bad), prog(good, bad, bad, other), nil, 1, two)
}
