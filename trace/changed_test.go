package trace_test

import (
	"math"
	"math/rand"
	"slices"
	"testing"

	"splicery/api"
	"splicery/trace"
)

// changes checks what has changed between two programs, in both directions, and that nothing has between equal ones.
func changes(t *testing.T, what string, p, q api.Prog, want ...api.ID) {
	t.Helper()
	want = sorted(want)
	for _, got := range [][]api.ID{trace.Changed(p, q), trace.Changed(q, p)} {
		if !slices.Equal(got, want) {
			t.Errorf("P12.4: %s changes %v, not %v", what, got, want)
		}
	}
	for _, x := range []api.Prog{p, q} {
		if l := trace.Changed(x, x); len(l) > 0 {
			t.Errorf("P12.4: %s: %v change from a program to itself", what, l)
		}
	}
	if rule := changedByRule(p, q); !slices.Equal(rule, want) {
		t.Errorf("the rule says that %s changes %v, not %v", what, rule, want)
	}
}

// changedBy returns a copy of a program that a function has changed.
func changedBy(p api.Prog, change func(q *api.Prog)) api.Prog {
	q := clone(p)
	change(&q)
	return q
}

// clone returns a program that shares no memory with p.
func clone(p api.Prog) api.Prog {
	q := api.Prog{Mods: slices.Clone(p.Mods)}
	for _, d := range p.Defs {
		d.Slots, d.Layout, d.Result, d.Body = slices.Clone(d.Slots), slices.Clone(d.Layout), cloneType(d.Result), cloneExpr(d.Body)
		for i := range d.Slots {
			d.Slots[i].Type = cloneType(d.Slots[i].Type)
		}
		q.Defs = append(q.Defs, d)
	}
	return q
}

func cloneType(t api.Type) api.Type {
	kids := t.Kids
	t.Kids = nil
	for _, kid := range kids {
		t.Kids = append(t.Kids, cloneType(kid))
	}
	return t
}

func cloneExpr(e api.Expr) api.Expr {
	kids := e.Kids
	e.Kids, e.Names, e.Type = nil, slices.Clone(e.Names), cloneType(e.Type)
	for _, kid := range kids {
		e.Kids = append(e.Kids, cloneExpr(kid))
	}
	return e
}

// world returns a program with a definition of each kind. The nodes of the definition n have the IDs from 1000 * n on, those of 3 from 3000 to 3007.
func world() api.Prog {
	p := prog(
		def(1, api.KRec, whole, num(1), whole, truth),
		def(2, api.KCase, whole, num(1), whole, of(1)),
		def(3, api.KFun, whole, op(api.Add, let(3001, num(1), v(3001)), cond(is(1), v(301), num(2))), whole, of(1), listOf(of(1))),
		def(4, api.KOn, of(1), v(401), of(1), of(2)),
		def(5, api.KTest, truth, op(api.Len, list(of(1), v(502))), whole, of(1)),
		def(6, api.KConv, listOf(of(1)), list(of(1), v(601)), of(1)),
	)
	p.Mods = []api.Mod{{ID: id(90), Name: "m", Uses: ids(91), Defs: ids(1, 2, 3)}}
	p.Defs[4].Slots[0].Most = 7
	return p
}

// TestDefs changes each part of the contents of definitions, each kind of them, alone.
func TestDefs(t *testing.T) {
	p := world()
	for i := range p.Defs {
		d := p.Defs[i]
		on := d.ID
		root := []api.ID{on}
		for _, x := range []struct {
			what   string
			change func(d *api.Def)
		}{
			{"another result", func(d *api.Def) { d.Result.Kind++ }},
			{"another definition in a result", func(d *api.Def) { d.Result.Def.Index++ }},
			{"kids of a result", func(d *api.Def) { d.Result.Kids = append(d.Result.Kids, whole) }},
			{"another ID of a slot", func(d *api.Def) { d.Slots[0].ID = id(99) }},
			{"a negative part in the ID of a slot", func(d *api.Def) { d.Slots[0].ID.Seq = -1 }},
			{"another kind of the type of a slot", func(d *api.Def) { d.Slots[0].Type.Kind += 2 }},
			{"another definition in the type of a slot", func(d *api.Def) { d.Slots[0].Type.Def.Shop++ }},
			{"a kid of the type of a slot", func(d *api.Def) { d.Slots[0].Type.Kids = []api.Type{{}} }},
			{"another bound of a slot", func(d *api.Def) { d.Slots[0].Most-- }},
			{"another bound of the last slot", func(d *api.Def) { d.Slots[len(d.Slots)-1].Most = math.MaxInt }},
			{"another type of the last slot", func(d *api.Def) { d.Slots[len(d.Slots)-1].Type = listOf(truth) }},
			{"another ID of the last slot", func(d *api.Def) { d.Slots[len(d.Slots)-1].ID.Shop = 7 }},
			{"a further slot", func(d *api.Def) { d.Slots = append(d.Slots, d.Slots[0]) }},
			{"a further slot with a zero content", func(d *api.Def) { d.Slots = append(d.Slots, api.Slot{}) }},
			{"no slot", func(d *api.Def) { d.Slots = nil }},
			{"one slot less", func(d *api.Def) { d.Slots = d.Slots[:len(d.Slots)-1] }},
			{"slots of which the first is gone", func(d *api.Def) { d.Slots = d.Slots[1:] }},
		} {
			changes(t, x.what, p, changedBy(p, func(q *api.Prog) { x.change(&q.Defs[i]) }), root...)
		}
		if len(d.Slots) > 1 {
			changes(t, "another order of slots", p, changedBy(p, func(q *api.Prog) { slices.Reverse(q.Defs[i].Slots) }), on)
		}
		for kind := -1; kind <= 7; kind++ {
			q := changedBy(p, func(q *api.Prog) { q.Defs[i].Kind = kind })
			want := root
			switch {
			case kind == d.Kind:
				want = nil
			case bodyByRule(q.Defs[i]) != bodyByRule(d): // all nodes come or go
				want = append(evaluated(d.Body), on)
			}
			changes(t, "another kind", p, q, want...)
		}
		without := changedBy(p, func(q *api.Prog) { q.Defs = slices.Delete(q.Defs, i, i+1) })
		want := []api.ID{on}
		if bodyByRule(d) {
			want = append(want, evaluated(d.Body)...)
		}
		changes(t, "a definition less", p, without, want...)
		changes(t, "another ID of a definition", p, changedBy(p, func(q *api.Prog) { q.Defs[i].ID = id(99) }), on, id(99))
		changes(t, "a definition at another place", p, changedBy(without, func(q *api.Prog) { q.Defs = append(q.Defs, d) }))
		changes(t, "a definition of the other program alone", prog(), prog(d), want...)
	}
	changes(t, "nothing", prog(), prog())
	if l := trace.Changed(p, api.Prog{Mods: p.Mods, Defs: []api.Def{}}); !slices.Equal(l, changedByRule(p, prog())) || len(l) < 20 {
		t.Errorf("P12.4: a program without definitions changes %v", l)
	}
}

// TestContents changes each part of the contents of nodes alone, at each node of each definition, of which those without a body have no nodes.
func TestContents(t *testing.T) {
	p := world()
	for i := range p.Defs {
		for _, path := range paths(p.Defs[i].Body) {
			node := func(q *api.Prog) *api.Expr { return nodeAt(&q.Defs[i].Body, path) }
			on := node(&p).ID
			for _, x := range []struct {
				what   string
				change func(e *api.Expr)
			}{
				{"another kind", func(e *api.Expr) { e.Kind++ }},
				{"a negative kind", func(e *api.Expr) { e.Kind = -1 }},
				{"another number", func(e *api.Expr) { e.N++ }},
				{"a very great number", func(e *api.Expr) { e.N = math.MinInt }},
				{"another shop", func(e *api.Expr) { e.Ref.Shop++ }},
				{"another number of a patch", func(e *api.Expr) { e.Ref.Seq-- }},
				{"another index", func(e *api.Expr) { e.Ref.Index = math.MaxInt }},
				{"another kind of a type", func(e *api.Expr) { e.Type.Kind++ }},
				{"another definition in a type", func(e *api.Expr) { e.Type.Def.Index++ }},
				{"a further kid of a type", func(e *api.Expr) { e.Type.Kids = append(e.Type.Kids, truth) }},
			} {
				q := changedBy(p, func(q *api.Prog) { x.change(node(q)) })
				if bodyByRule(p.Defs[i]) {
					changes(t, x.what, p, q, on)
				} else {
					changes(t, x.what+" of what is no node", p, q)
				}
			}
			if bodyByRule(p.Defs[i]) {
				changeKids(t, p, i, path)
			}
		}
	}
}

// changeKids changes the kids of the node at the end of a path, and its ID.
func changeKids(t *testing.T, p api.Prog, i int, path []int) {
	t.Helper()
	change := func(change func(e *api.Expr)) api.Prog {
		return changedBy(p, func(q *api.Prog) { change(nodeAt(&q.Defs[i].Body, path)) })
	}
	e := *nodeAt(&p.Defs[i].Body, path)
	if len(e.Kids) > 1 {
		changes(t, "kids in another order", p, change(func(e *api.Expr) { slices.Reverse(e.Kids) }), e.ID)
	}
	if len(e.Kids) > 0 {
		var below []api.ID
		for _, kid := range e.Kids {
			below = append(below, evaluated(kid)...)
		}
		changes(t, "no kids", p, change(func(e *api.Expr) { e.Kids = nil }), append(below, e.ID)...)
		changes(t, "a kid twice", p, change(func(e *api.Expr) { e.Kids = append(e.Kids, e.Kids[0]) }), e.ID)
		last := evaluated(e.Kids[len(e.Kids)-1])
		changes(t, "no last kid", p, change(func(e *api.Expr) { e.Kids = e.Kids[:len(e.Kids)-1] }), append(last, e.ID)...)
	}
	further := api.Expr{ID: id(99), Kids: []api.Expr{{ID: id(98)}}}
	changes(t, "a further kid", p, change(func(e *api.Expr) { e.Kids = append(e.Kids, further) }), e.ID, id(98), id(99))
	changes(t, "a further kid in front", p, change(func(e *api.Expr) { e.Kids = slices.Insert(e.Kids, 0, further) }), e.ID, id(98), id(99))
	parent := p.Defs[i].ID // whose content has the ID of the root
	if len(path) > 0 {
		parent = nodeAt(&p.Defs[i].Body, path[:len(path)-1]).ID
	}
	changes(t, "another ID of a node", p, change(func(e *api.Expr) { e.ID = id(99) }), parent, e.ID, id(99))
	changes(t, "a node around a node", p, change(func(e *api.Expr) { *e = api.Expr{ID: id(99), Kids: []api.Expr{*e}} }), parent, id(99))
}

// paths returns the paths of kids to all nodes of an expression.
func paths(e api.Expr) [][]int {
	l := [][]int{nil}
	for i, kid := range e.Kids {
		for _, path := range paths(kid) {
			l = append(l, append([]int{i}, path...))
		}
	}
	return l
}

// nodeAt returns the node at the end of a path.
func nodeAt(e *api.Expr, path []int) *api.Expr {
	for _, i := range path {
		e = &e.Kids[i]
	}
	return e
}

// TestNames changes what is no content (P12.7).
func TestNames(t *testing.T) {
	p := world()
	for _, x := range []struct {
		what   string
		change func(q *api.Prog)
	}{
		{"no modules", func(q *api.Prog) { q.Mods = nil }},
		{"another module", func(q *api.Prog) { q.Mods = append(q.Mods, api.Mod{ID: id(1), Name: "f", Defs: ids(3000)}) }},
		{"another list of definitions", func(q *api.Prog) { q.Mods[0].Defs = nil }},
		{"another ID of a module", func(q *api.Prog) { q.Mods[0].ID = id(3000) }},
		{"other names", func(q *api.Prog) { q.Mods[0].Name, q.Defs[0].Name, q.Defs[2].Name = "k", "", "if" }},
		{"other modules of definitions", func(q *api.Prog) { q.Defs[0].Mod, q.Defs[3].Mod = id(77), id(3) }},
		{"other places", func(q *api.Prog) { q.Defs[0].Place, q.Defs[3].Place = -1, 99 }},
		{"other layouts", func(q *api.Prog) { q.Defs[0].Layout, q.Defs[3].Layout = []string{""}, []string{" ", "#\n"} }},
		{"other names of slots", func(q *api.Prog) { q.Defs[0].Slots[0].Name, q.Defs[3].Slots[1].Name = "", "z" }},
		{"other places of slots", func(q *api.Prog) { q.Defs[0].Slots[0].Place, q.Defs[3].Slots[1].Place = 5, -5 }},
		{"other names of nodes", func(q *api.Prog) {
			q.Defs[2].Body.Names, q.Defs[2].Body.Kids[0].Names = []string{"x"}, []string{"x", "y"}
		}},
		{"empty lists", func(q *api.Prog) {
			q.Defs[2].Result.Kids, q.Defs[2].Slots[0].Type.Kids, q.Defs[3].Body.Kids, q.Defs[3].Body.Type.Kids = []api.Type{}, []api.Type{}, []api.Expr{}, []api.Type{}
		}},
	} {
		changes(t, x.what, p, changedBy(p, x.change))
	}
	d := def(7, api.KFun, whole, num(1))
	e := d
	d.Slots, e.Slots = nil, []api.Slot{}
	changes(t, "an empty list of slots", prog(d), prog(e))
}

// TestSharedIDs has several definitions and nodes with one ID, of which the first one counts, and IDs that are those of a definition and of a node.
func TestSharedIDs(t *testing.T) {
	node := func(n int, kids ...api.Expr) api.Expr { return api.Expr{ID: id(50), N: n, Kids: kids} }
	root := func(kids ...api.Expr) api.Expr { return api.Expr{ID: id(40), Kids: kids} }
	fun := func(n int, body api.Expr) api.Def { return api.Def{ID: id(n), Kind: api.KFun, Body: body} }
	plain := func(n, kind int) api.Def { return api.Def{ID: id(n), Kind: kind, Body: node(9)} }
	for _, x := range []struct {
		what string
		p, q api.Prog
		want []int
	}{
		{"the first of two definitions", prog(plain(1, 0), plain(1, 0)), prog(plain(1, 1), plain(1, 0)), []int{1}},
		{"the second of two definitions", prog(plain(1, 0), plain(1, 0)), prog(plain(1, 0), plain(1, 1)), nil},
		{"a second definition", prog(plain(1, 0)), prog(plain(1, 0), plain(1, 1)), nil},
		{"a definition in front", prog(plain(1, 0)), prog(plain(1, 1), plain(1, 0)), []int{1}},
		{"two definitions in another order", prog(plain(1, 0), plain(1, 1)), prog(plain(1, 1), plain(1, 0)), []int{1}},
		{"the body of a second definition", prog(plain(1, 0), fun(1, node(1))), prog(plain(1, 0), fun(1, node(2))), []int{50}},
		{"a second definition with a body", prog(plain(1, 0)), prog(plain(1, 0), fun(1, node(1))), []int{50}},
		{"the root of a second definition", prog(fun(1, node(1)), fun(1, node(1))), prog(fun(1, node(1)), fun(1, root())), []int{40}},
		{"the first of two nodes of a definition", prog(fun(1, root(node(1), node(2)))), prog(fun(1, root(node(3), node(2)))), []int{50}},
		{"the second of two nodes of a definition", prog(fun(1, root(node(1), node(2)))), prog(fun(1, root(node(1), node(3)))), nil},
		{"two nodes in another order", prog(fun(1, root(node(1), node(2)))), prog(fun(1, root(node(2), node(1)))), []int{50}},
		{"a node below one with the same ID", prog(fun(1, root(node(1, node(2))))), prog(fun(1, root(node(1, node(3))))), nil},
		{"a node above one with the same ID", prog(fun(1, root(node(1, node(2))))), prog(fun(1, root(node(3, node(2))))), []int{50}},
		{"a node below the first one, in front of the second one", prog(fun(1, root(api.Expr{ID: id(41), Kids: []api.Expr{node(1)}}, node(2)))), prog(fun(1, root(api.Expr{ID: id(41), Kids: []api.Expr{node(3)}}, node(2)))), []int{50}},
		{"a node of the first kid, behind one that is not as deep", prog(fun(1, root(node(2), api.Expr{ID: id(41), Kids: []api.Expr{node(1)}}))), prog(fun(1, root(node(2), api.Expr{ID: id(41), Kids: []api.Expr{node(3)}}))), nil},
		{"a node of the first of two definitions", prog(fun(1, node(1)), fun(2, node(2))), prog(fun(1, node(3)), fun(2, node(2))), []int{50}},
		{"a node of the second of two definitions", prog(fun(1, node(1)), fun(2, node(2))), prog(fun(1, node(1)), fun(2, node(3))), nil},
		{"two definitions in another order, whose nodes have one ID", prog(fun(1, node(1)), fun(2, node(2))), prog(fun(2, node(2)), fun(1, node(1))), []int{50}},
		{"a body that is no node in front of one that is", prog(plain(1, 0), fun(2, node(2))), prog(plain(1, 0), fun(2, node(3))), []int{50}},
		{"a body that is no node", prog(plain(1, 0), fun(2, node(9))), prog(fun(2, node(9)), plain(1, 0)), nil},
		{"a body that becomes one of nodes", prog(plain(1, 0)), prog(plain(1, 2)), []int{1, 50}},
		{"a body that becomes one of nodes, which have been known", prog(plain(1, 1), fun(2, node(9))), prog(plain(1, 5), fun(2, node(9))), []int{1}},
		{"a definition that is a node, too", prog(fun(50, node(1))), prog(fun(50, node(2))), []int{50}},
		{"a node that is a definition, too", prog(fun(1, node(1)), plain(50, 0)), prog(fun(1, node(1)), plain(50, 1)), []int{50}},
		{"both of one ID", prog(fun(1, node(1)), plain(50, 0)), prog(fun(1, node(2)), plain(50, 1)), []int{50}},
		{"neither of one ID", prog(fun(1, node(1)), plain(50, 0)), prog(plain(50, 0), fun(1, node(1))), nil},
		{"a definition in place of a node", prog(fun(1, root(node(1)))), prog(fun(1, root()), plain(50, 0)), []int{40, 50}},
		{"a node less with the ID of a definition", prog(fun(1, root(node(1))), plain(50, 0)), prog(fun(1, root()), plain(50, 0)), []int{40, 50}},
		{"the last kind with a body", prog(plain(1, 5)), prog(plain(1, 6)), []int{1, 50}},
		{"the ID of a body that is no node", prog(plain(1, 0)), prog(api.Def{ID: id(1), Body: root()}), nil},
		{"the ID of a body of a variant", prog(plain(1, 1)), prog(api.Def{ID: id(1), Kind: api.KCase, Body: root()}), nil},
		{"the ID of a body of no kind", prog(plain(1, -1)), prog(api.Def{ID: id(1), Kind: -1, Body: root()}), nil},
	} {
		changes(t, x.what, x.p, x.q, ids(x.want...)...)
	}
	// IDs that are equal in two of three parts.
	l := near()
	for i := range l {
		var p api.Prog
		for j, x := range l {
			p.Defs = append(p.Defs, api.Def{ID: x, Kind: api.KFun, Body: api.Expr{ID: l[len(l)-1-j], Kind: api.NInt, N: j}})
		}
		changes(t, "one of many definitions", p, changedBy(p, func(q *api.Prog) { q.Defs[i].Result = truth }), l[i])
		changes(t, "one of many nodes", p, changedBy(p, func(q *api.Prog) { q.Defs[i].Body.N = -1 }), l[len(l)-1-i])
		changes(t, "many nodes", p, changedBy(p, func(q *api.Prog) {
			for j := range q.Defs {
				q.Defs[j].Body.N = max(i, j)
			}
		}), reversed(l)[:i]...)
		changes(t, "many definitions", p, changedBy(p, func(q *api.Prog) { q.Defs = q.Defs[:i] }), append(slices.Clone(l[i:]), reversed(l)[i:]...)...)
	}
}

// rough makes programs of chance that are nothing but lists of definitions: few IDs, kinds and numbers.
type rough struct{ *rand.Rand }

func (r rough) id() api.ID {
	if r.Intn(20) == 0 {
		return near()[r.Intn(len(near()))]
	}
	return id(r.Intn(14))
}

func (r rough) typeOf(depth int) api.Type {
	t := api.Type{Kind: r.Intn(4)}
	if r.Intn(3) == 0 {
		t.Def = r.id()
	}
	for range r.Intn(2) {
		if depth > 0 {
			t.Kids = append(t.Kids, r.typeOf(depth-1))
		}
	}
	return t
}

func (r rough) expr(depth int) api.Expr {
	e := api.Expr{ID: r.id(), Kind: r.Intn(14) - 1, N: r.Intn(3), Names: make([]string, r.Intn(2))}
	if r.Intn(3) == 0 {
		e.Ref, e.Type = r.id(), r.typeOf(1)
	}
	for range r.Intn(4) {
		if depth > 0 {
			e.Kids = append(e.Kids, r.expr(depth-1))
		}
	}
	return e
}

func (r rough) slots() []api.Slot {
	var l []api.Slot
	for range r.Intn(3) {
		l = append(l, api.Slot{ID: r.id(), Type: r.typeOf(2), Most: r.Intn(2), Place: r.Intn(2)})
	}
	return l
}

func (r rough) def() api.Def {
	return api.Def{ID: r.id(), Kind: r.Intn(8) - 1, Mod: r.id(), Slots: r.slots(), Result: r.typeOf(2), Body: r.expr(3), Place: r.Intn(2)}
}

func (r rough) prog() api.Prog {
	var p api.Prog
	for range r.Intn(5) {
		p.Defs = append(p.Defs, r.def())
	}
	return p
}

// change changes something in a program.
func (r rough) change(p *api.Prog) {
	if len(p.Defs) == 0 || r.Intn(8) == 0 {
		p.Defs = append(p.Defs, r.def())
		return
	}
	i := r.Intn(len(p.Defs))
	d := &p.Defs[i]
	all := paths(d.Body)
	e := nodeAt(&d.Body, all[r.Intn(len(all))])
	switch r.Intn(12) {
	case 0:
		p.Defs = slices.Delete(p.Defs, i, i+1)
	case 1:
		slices.Reverse(p.Defs)
	case 2:
		d.Kind = r.Intn(8) - 1
	case 3:
		d.Slots = r.slots()
	case 4:
		d.Result = r.typeOf(2)
	case 5:
		*e = r.expr(1)
	case 6:
		slices.Reverse(e.Kids)
	case 7:
		e.N, e.Kind = r.Intn(3), r.Intn(3)
	case 8:
		e.Ref = r.id()
	case 9:
		e.Type = r.typeOf(1)
	case 10:
		e.ID = r.id()
	case 11:
		d.Mod, d.Place, e.Names = r.id(), r.Intn(2), make([]string, r.Intn(2))
	}
}

// TestChangesOfChance compares programs of chance, of which most are not sound, with the rule.
func TestChangesOfChance(t *testing.T) {
	r := rough{rand.New(rand.NewSource(1))}
	counts := map[int]int{}
	for range 20000 {
		p := r.prog()
		q := clone(p)
		for range r.Intn(4) {
			r.change(&q)
		}
		if r.Intn(10) == 0 {
			q = r.prog()
		}
		want := changedByRule(p, q)
		for _, got := range [][]api.ID{trace.Changed(p, q), trace.Changed(q, p)} {
			if !slices.Equal(got, want) {
				t.Fatalf("P12.4: from %+v to %+v %v change, not %v", p, q, got, want)
			}
		}
		if l := trace.Changed(p, clone(p)); len(l) > 0 {
			t.Fatalf("P12.4: from %+v to itself %v change", p, l)
		}
		counts[min(len(want), 3)]++
	}
	for n := range 4 {
		if counts[n] < 1000 {
			t.Errorf("only %d changes change %d IDs", counts[n], n)
		}
	}
}
