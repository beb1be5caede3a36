package steps_test

import (
	"fmt"
	"slices"
	"strings"
	"testing"

	"splicery/api"
	"splicery/steps"
)

// What an evaluation returns is tested by packages eval and trace. Here is in which order it tells what it asks.

func id(n int) api.ID { return api.ID{Index: n} }

func node(n, kind int, kids ...api.Expr) api.Expr {
	return api.Expr{ID: id(n), Kind: kind, Kids: kids}
}

func variable(n, ref int) api.Expr { return api.Expr{ID: id(n), Kind: api.NVar, Ref: id(ref)} }

// program has the functions 1, "if a < 3 then a else g(a)", and 2, "a * 2", with the nodes from 10 and from 20 on, and the slots 3 and 4.
func program() api.Prog {
	less := node(11, api.NOp, variable(12, 3), node(13, api.NInt))
	less.N, less.Kids[1].N = api.Less, 3
	call := node(15, api.NCall, variable(16, 3))
	call.Ref = id(2)
	twice := node(20, api.NOp, variable(21, 4), node(22, api.NInt))
	twice.N, twice.Kids[1].N = api.Mul, 2
	return api.Prog{Defs: []api.Def{
		{ID: id(1), Kind: api.KFun, Slots: []api.Slot{{ID: id(3)}}, Body: node(10, api.NIf, less, variable(14, 3), call)},
		{ID: id(2), Kind: api.KFun, Slots: []api.Slot{{ID: id(4)}}, Body: twice},
		{ID: id(5), Kind: api.KRec, Slots: []api.Slot{{ID: id(6)}}},
	}}
}

// TestWatch compares what is told, in order, for each fuel.
func TestWatch(t *testing.T) {
	for _, x := range []struct {
		on, arg int
		want    string
		code    api.Errno
	}{
		{1, 2, "10 11 12 13 14", api.OK},
		{1, 5, "10 11 12 13 15 16 def2 20 21 22", api.OK},
		{2, 5, "20 21 22", api.OK},
		{5, 5, "", api.ErrNone},
		{7, 5, "", api.ErrNone},
		{1, 1 << 50, "", api.ErrArg},
	} {
		for fuel := -1; fuel < 12; fuel++ {
			var told []string
			args := []api.Value{{N: x.arg}}
			v, n, code := steps.Call(program(), id(x.on), args, fuel, steps.Watch{
				Node: func(id api.ID) { told = append(told, fmt.Sprint(id.Index)) },
				Def:  func(id api.ID) { told = append(told, fmt.Sprint("def", id.Index)) },
			})
			want, wantCode := someSteps(strings.Fields(x.want), fuel), x.code
			if len(strings.Fields(x.want)) > len(want) {
				wantCode = api.ErrFuel
			}
			if !slices.Equal(told, want) || code != wantCode {
				t.Errorf("a call of %d for %d tells %v with the fuel %d (error %d), not %v (error %d)", x.on, x.arg, told, fuel, code, want, wantCode)
			}
			silent, m, silentCode := steps.Call(program(), id(x.on), args, fuel, steps.Watch{})
			if silent.N != v.N || m != n || silentCode != code {
				t.Errorf("a call of %d that is not watched has the value %+v after %d steps (error %d), not %+v after %d (error %d)", x.on, silent, m, silentCode, v, n, code)
			}
		}
	}
}

// someSteps returns the beginning of a list with so many nodes, and what follows before the next one.
func someSteps(l []string, fuel int) []string {
	for i, x := range l {
		if strings.HasPrefix(x, "def") {
			continue
		}
		if fuel <= 0 {
			return l[:i]
		}
		fuel--
	}
	return l
}

// TestDefs finds the first definitions with an ID.
func TestDefs(t *testing.T) {
	p := program()
	p.Defs = append(p.Defs, api.Def{ID: id(1), Kind: api.KConv}, api.Def{})
	defs := steps.Defs(p)
	if len(defs) != 4 || defs[id(1)] != &p.Defs[0] || defs[id(5)] != &p.Defs[2] || defs[api.ID{}] != &p.Defs[4] || defs[id(7)] != nil {
		t.Errorf("the definitions are %v", defs)
	}
	for kind, want := range map[int]bool{-1: false, api.KRec: false, api.KCase: false, api.KFun: true, api.KOn: true, api.KTest: true, api.KConv: true, api.KConv + 1: false} {
		if steps.HasBody(&api.Def{Kind: kind}) != want {
			t.Errorf("the kind %d has a body: %v", kind, !want)
		}
	}
}
