package scope_test

import (
	"testing"

	"splicery/api"
	"splicery/scope"
	"splicery/syntax"
)

const levels = 1 << 16

// deep returns a function with a body of some levels, each of which another function makes of the one below it; the IDs of the nodes that it makes begin with the level.
func deep(levels int, level func(i int, e api.Expr) api.Expr) api.Def {
	e := api.Expr{ID: api.ID{Shop: 3}, Kind: api.NVar, Ref: id(101)}
	for i := range levels {
		e = level(levels-i, e)
	}
	return function(e)
}

// at returns the ID of a node of a level.
func at(i, n int) api.ID { return api.ID{Shop: 3, Seq: i, Index: n} }

func TestDeepBodies(t *testing.T) {
	number := func(i int) api.Expr { return api.Expr{ID: at(i, 1)} }
	for name, level := range map[string]func(i int, e api.Expr) api.Expr{
		"operation": func(i int, e api.Expr) api.Expr {
			return api.Expr{ID: at(i, 0), Kind: api.NOp, N: api.Not, Kids: []api.Expr{e}}
		},
		"call": func(i int, e api.Expr) api.Expr {
			return api.Expr{ID: at(i, 0), Kind: api.NCall, Ref: id(funF), Kids: []api.Expr{e}}
		},
		"let with other names": func(i int, e api.Expr) api.Expr {
			return api.Expr{ID: at(i, 0), Kind: api.NLet, Names: []string{"x"}, Kids: []api.Expr{number(i), e}}
		},
		"let with the name of the slot": func(i int, e api.Expr) api.Expr {
			return api.Expr{ID: at(i, 0), Kind: api.NLet, Names: []string{"a"}, Kids: []api.Expr{number(i), e}}
		},
		"let in the value of a let": func(i int, e api.Expr) api.Expr {
			return api.Expr{ID: at(i, 0), Kind: api.NLet, Names: []string{"a"}, Kids: []api.Expr{e, {ID: at(i, 1), Kind: api.NVar, Ref: at(i, 0)}}}
		},
		"let whose name the level below uses": func(i int, e api.Expr) api.Expr {
			value := number(i)
			if i > 1 {
				value = api.Expr{ID: at(i, 1), Kind: api.NVar, Ref: at(i-1, 0)}
			}
			return api.Expr{ID: at(i, 0), Kind: api.NLet, Names: []string{"x"}, Kids: []api.Expr{value, e}}
		},
		"fold": func(i int, e api.Expr) api.Expr {
			return api.Expr{ID: at(i, 0), Kind: api.NFold, Names: []string{"x", "x"}, Kids: []api.Expr{number(i), {ID: at(i, 2)}, e}}
		},
		"match": func(i int, e api.Expr) api.Expr {
			return api.Expr{ID: at(i, 0), Kind: api.NMatch, Ref: id(caseS), Names: []string{"a", "a"}, Kids: []api.Expr{number(i), {ID: at(i, 2)}, e}}
		},
	} {
		count := levels / 8
		if name == "match" || name == "let with the name of the slot" {
			count = levels
		}
		d := deep(count, level)
		p := with(world(), d)
		f, e := scope.Unbind(p, d.ID)
		if e != api.OK {
			t.Errorf("P1: Unbind of many levels (%s) fails with %d", name, e)
			continue
		}
		next := make([]api.ID, 4*count)
		again, n, e := scope.Bind(p, d.Mod, f, next)
		if e != api.OK || n != 3+len(syntaxNodes(f.Body)) || again.Body.Kind != d.Body.Kind {
			t.Errorf("P1: Bind of many levels (%s) takes %d IDs, with the error %d", name, n, e)
		}
		fails(t, p, d.Mod, form{Kind: f.Kind, Name: f.Name, Slots: f.Slots, Result: f.Result, Body: f.Body}, next[:n-1], api.ErrLimit)
		p.Mods[0].Defs = ids(100, 1)
		sourceless(t, p, d.Mod, api.ErrLimit)
	}
}

// syntaxNodes returns one element for each node of a term.
func syntaxNodes(x term) []int {
	l := []int{x.Kind}
	for level := x.Kids; len(level) > 0; {
		var below []term
		for _, kid := range level {
			l = append(l, kid.Kind)
			below = append(below, kid.Kids...)
		}
		level = below
	}
	return l
}

func TestDeepTypes(t *testing.T) {
	x, w := of(recP), word{Name: "P"}
	for range levels {
		x, w = listOf(x), word{Name: "List", Kids: []word{w}}
	}
	d := function(node(api.NInt, 1, 0, 0))
	d.Result = x
	f, e := scope.Unbind(with(world(), d), d.ID)
	want := form{Kind: api.KFun, Name: "n", Slots: []syntax.Field{{Name: "a", Type: word{Name: "Int"}}, {Name: "b", Type: word{Name: "Int"}}}, Result: w, Body: term{N: 1}}
	if e != api.OK || !syntax.Same(syntax.Source{Defs: []form{f}}, syntax.Source{Defs: []form{want}}) {
		t.Errorf("P1: Unbind of a type of many levels fails with %d", e)
	}
	again, n, e := scope.Bind(world(), id(modM), f, ids(100, 4))
	if e != api.OK || n != 4 || !sameType(again.Result, x) {
		t.Errorf("P1: Bind of a type of many levels takes %d IDs, with the error %d", n, e)
	}
	x.Kids[0].Kids[0].Kids[0].Kids[0] = api.Type{Kind: api.TList}
	refuses(t, world(), d, api.ErrDead)
}
