package types_test

import (
	"math"
	"math/rand"
	"reflect"
	"slices"
	"strconv"
	"testing"

	"splicery/api"
	"splicery/scope"
	"splicery/types"
)

// chance makes sound programs of chance, and expressions that have a type.
type chance struct {
	*rand.Rand
	p       api.Prog
	data    int  // the number of definitions that are types
	last    int  // the index of the last ID
	sharing bool // whether nodes may have IDs that others have
}

// pick returns an element of a list.
func pick[T any](c *chance, l ...T) T { return l[c.Intn(len(l))] }

// next returns an ID.
func (c *chance) next() api.ID {
	if c.sharing && c.Intn(10) == 0 {
		return id(1 + c.Intn(c.last))
	}
	c.last++
	return id(c.last)
}

func newChance(seed int) *chance {
	c := &chance{Rand: rand.New(rand.NewSource(int64(seed)))}
	c.program()
	return c
}

// program makes a module with some types, and functions with bodies behind them.
func (c *chance) program() {
	mod := c.next()
	add := func(kind, least int) *api.Def {
		d := api.Def{ID: c.next(), Kind: kind, Mod: mod, Name: "d" + strconv.Itoa(len(c.p.Defs))}
		for i := range least + c.Intn(4-least) {
			d.Slots = append(d.Slots, api.Slot{ID: c.next(), Name: string(rune('a' + i)), Type: c.typeOf(2), Place: i})
		}
		c.p.Defs = append(c.p.Defs, d)
		return &c.p.Defs[len(c.p.Defs)-1]
	}
	for range 2 + c.Intn(4) {
		if c.Intn(2) == 0 {
			add(api.KRec, 0)
		} else {
			add(api.KCase, 1)
		}
		c.data++
	}
	for range 2 + c.Intn(4) {
		kind := pick(c, api.KFun, api.KFun, api.KConv)
		d := add(kind, 0)
		d.Result = c.typeOf(2)
		if kind == api.KConv {
			d.Slots = []api.Slot{{ID: c.next(), Name: "a", Type: c.typeOf(2)}}
		}
	}
	for i := c.data; i < len(c.p.Defs); i++ {
		d := &c.p.Defs[i]
		d.Body = c.expr(d.Result, bound(d.Slots), 1+c.Intn(4))
	}
	c.p.Mods = []api.Mod{{ID: mod, Name: "m"}}
}

// bound returns what the slots of a definition bind.
func bound(l []api.Slot) []types.Bound {
	var b []types.Bound
	for _, s := range l {
		b = append(b, types.Bound{ID: s.ID, Type: s.Type})
	}
	return b
}

// typeOf returns a type that has values: it is made of definitions that are there.
func (c *chance) typeOf(depth int) api.Type {
	switch c.Intn(5) {
	case 0:
		return truth
	case 1:
		if depth > 0 {
			return listOf(c.typeOf(depth - 1))
		}
	case 2, 3:
		if c.data > 0 {
			return api.Type{Kind: api.TDef, Def: c.p.Defs[c.Intn(c.data)].ID}
		}
	}
	return whole
}

// bounds returns what may be bound around an expression: some of it hides what stands before.
func (c *chance) bounds() []types.Bound {
	var l []types.Bound
	for range c.Intn(8) {
		l = append(l, types.Bound{ID: id(2000 + c.Intn(5)), N: pick(c, 0, 0, 1, -1), Type: c.typeOf(2)})
	}
	return l
}

// variables returns the names that have a type, where l is bound.
func variables(l []types.Bound, t api.Type) []types.Bound {
	var some []types.Bound
	for i, x := range l {
		hidden := slices.ContainsFunc(l[i+1:], func(y types.Bound) bool { return x.ID == y.ID && x.N == y.N })
		if !hidden && sameType(x.Type, t) {
			some = append(some, x)
		}
	}
	return some
}

// expr returns an expression with a type, where l is bound.
func (c *chance) expr(t api.Type, l []types.Bound, depth int) api.Expr {
	if some := variables(l, t); len(some) > 0 && (depth <= 0 || c.Intn(4) == 0) {
		x := pick(c, some...)
		return api.Expr{ID: c.next(), Kind: api.NVar, Ref: x.ID, N: x.N}
	}
	if depth > 0 {
		for range 3 {
			if e, ok := c.general(t, l, depth-1); ok {
				return e
			}
		}
	}
	return c.own(t, l, depth-1)
}

// general returns an expression of a kind that may have any type; false, if there is none.
func (c *chance) general(t api.Type, l []types.Bound, depth int) (api.Expr, bool) {
	e := api.Expr{ID: c.next(), Kind: pick(c, api.NCall, api.NIf, api.NLet, api.NField, api.NMatch, api.NFold)}
	kids := func(all ...api.Type) {
		for i, x := range all {
			inside := slices.Concat(l, bindsByRule(c.p, e, i, all))
			e.Kids = append(e.Kids, c.expr(x, inside, depth))
		}
	}
	switch e.Kind {
	case api.NIf:
		kids(truth, t, t)
	case api.NLet:
		e.Names = []string{pick(c, "a", "b", "x")}
		kids(c.typeOf(2), t)
	case api.NFold:
		e.Names = []string{pick(c, "a", "b", "x"), pick(c, "a", "b", "x")}
		kids(listOf(c.typeOf(1)), t, t)
	default:
		d := pick(c, c.p.Defs...)
		if !slices.Contains(namedByRule(e.Kind), d.Kind) {
			return e, false
		}
		e.Ref = d.ID
		self := api.Type{Kind: api.TDef, Def: d.ID}
		var all []api.Type
		for _, s := range d.Slots {
			all = append(all, s.Type)
		}
		switch places := slices.Collect(func(yield func(int) bool) {
			for i, x := range all {
				if sameType(x, t) && !yield(i) {
					return
				}
			}
		}); {
		case e.Kind == api.NCall && sameType(d.Result, t):
			kids(all...)
		case e.Kind == api.NField && len(places) > 0:
			e.N = pick(c, places...)
			kids(self)
		case e.Kind == api.NMatch:
			for range all {
				e.Names = append(e.Names, pick(c, "a", "b", "x"))
			}
			kids(append([]api.Type{self}, slices.Repeat([]api.Type{t}, len(all))...)...)
		default:
			return e, false
		}
	}
	return e, true
}

// own returns an expression of a kind that has types of this kind only.
func (c *chance) own(t api.Type, l []types.Bound, depth int) api.Expr {
	e := api.Expr{ID: c.next()}
	kids := func(all ...api.Type) {
		e.Kind = api.NOp
		for _, x := range all {
			e.Kids = append(e.Kids, c.expr(x, l, depth))
		}
	}
	switch t.Kind {
	case api.TInt:
		if e.N = pick(c, 0, 7, -3, api.MaxInt, -api.MaxInt); depth > 0 {
			if e.N = pick(c, api.Add, api.Sub, api.Mul, api.Div, api.Rem, api.Len); e.N == api.Len {
				kids(listOf(c.typeOf(1)))
			} else {
				kids(whole, whole)
			}
		}
	case api.TBool:
		e.Kind, e.N = api.NBool, c.Intn(2)
		if depth > 0 {
			x := c.typeOf(2)
			e.N = pick(c, api.Less, api.Same, api.And, api.Or, api.Not)
			kids(map[int][]api.Type{api.Less: {whole, whole}, api.Same: {x, x}, api.And: {truth, truth}, api.Or: {truth, truth}, api.Not: {truth}}[e.N]...)
		}
	case api.TList:
		if depth > 0 && c.Intn(2) == 0 {
			e.N = api.Join
			kids(t, t)
			break
		}
		kids(slices.Repeat([]api.Type{t.Kids[0]}, c.Intn(max(depth, 0)+1))...)
		e.Kind, e.Type = api.NList, t.Kids[0]
	case api.TDef:
		d, _ := firstDef(c.p, t.Def)
		some := d.Slots
		if d.Kind == api.KCase {
			e.N = c.Intn(len(d.Slots))
			some = some[e.N : e.N+1]
		}
		var all []api.Type
		for _, s := range some {
			all = append(all, s.Type)
		}
		kids(all...)
		e.Kind, e.Ref = map[int]int{api.KRec: api.NRec, api.KCase: api.NCase}[d.Kind], t.Def
	}
	return e
}

// changed returns a copy of an expression in which a function has changed the node at the end of a path.
func changed(e api.Expr, path []int, change func(e *api.Expr)) api.Expr {
	e.Kids = slices.Clone(e.Kids)
	if len(path) == 0 {
		change(&e)
		return e
	}
	e.Kids[path[0]] = changed(e.Kids[path[0]], path[1:], change)
	return e
}

// spoil changes something in a node, after which it may be wrong.
func (c *chance) spoil(e *api.Expr) {
	switch c.Intn(12) {
	case 0:
		e.Kind = c.Intn(15) - 1
	case 1:
		e.N += pick(c, -1, 1, 2, api.MaxInt, math.MinInt)
	case 2, 8, 9:
		e.Ref = pick(c, id(1+c.Intn(c.last)), pick(c, c.p.Defs...).ID, id(2000+c.Intn(5)))
	case 3:
		e.Type = pick(c, whole, truth, c.typeOf(1), api.Type{Kind: api.TList}, api.Type{Kind: 4}, api.Type{Kind: api.TDef, Def: id(1 + c.Intn(c.last))})
	case 4:
		e.Kids = append(e.Kids, c.expr(c.typeOf(1), nil, 1))
	case 5:
		e.Kids = e.Kids[:len(e.Kids)/2]
	case 6:
		if n := len(e.Kids); n > 0 {
			i, j := c.Intn(n), c.Intn(n)
			e.Kids[i], e.Kids[j] = e.Kids[j], e.Kids[i]
		}
	case 7:
		e.ID = id(1 + c.Intn(c.last))
	default:
		*e = c.expr(c.typeOf(1), c.bounds(), c.Intn(2))
	}
}

// spoilProgram changes something in a program, after which expressions may be wrong.
func (c *chance) spoilProgram() {
	c.p.Defs = slices.Clone(c.p.Defs)
	i := c.Intn(len(c.p.Defs))
	d := &c.p.Defs[i]
	d.Slots = slices.Clone(d.Slots)
	switch c.Intn(6) {
	case 0:
		d.Kind = c.Intn(8) - 1
	case 1:
		d.Result = c.typeOf(1)
	case 2:
		d.Slots = append(d.Slots, api.Slot{Type: c.typeOf(1)})
	case 3:
		d.Slots = d.Slots[:len(d.Slots)/2]
	case 4:
		if len(d.Slots) > 0 {
			d.Slots[c.Intn(len(d.Slots))].Type = pick(c, whole, truth, api.Type{Kind: 6}, api.Type{Kind: api.TList}, of(c.Intn(9)))
		}
	case 5:
		c.p.Defs = slices.Insert(c.p.Defs, c.Intn(i+1), api.Def{ID: d.ID, Kind: pick(c, api.KRec, api.KCase, api.KFun), Slots: d.Slots})
	}
}

// count is what is counted: nodes of a kind that have an error or none, and whether nodes are found.
type count struct {
	found bool
	code  api.Errno
	kind  int
}

// compare checks what all functions return for an expression against the rule, and counts the errors by the kinds of the nodes.
func compare(t *testing.T, c *chance, l []types.Bound, e api.Expr, counts map[count]int) {
	t.Helper()
	wantT, wantID, wantCode := inferByRule(c.p, l, e)
	if got, n, code := types.Infer(c.p, l, e); !sameType(got, wantT) || n != wantID || code != wantCode {
		t.Fatalf("P9.1: in %+v with %+v Infer of %+v returns %v, %v, %d, not %v, %v, %d", c.p, l, e, got, n, code, wantT, wantID, wantCode)
	}
	for _, x := range []api.Type{wantT, c.typeOf(2)} {
		id, want := wantID, wantCode
		if want == api.OK && !sameType(x, wantT) {
			id, want = e.ID, api.ErrType
		}
		if n, code := types.Fits(c.p, l, e, x); n != id || code != want {
			t.Fatalf("P9.2: in %+v with %+v Fits of %+v and %v returns %v, %d, not %v, %d", c.p, l, e, x, n, code, id, want)
		}
	}
	if got, want := types.Free(e), freeByRule(e); !slices.EqualFunc(got, want, sameBound) {
		t.Fatalf("P9.4: Free of %+v returns %v, not %v", e, got, want)
	}
	paths := pathsByRule(e)
	for range 10 {
		n := nodeAt(e, pick(c, paths...)).ID
		if c.Intn(20) == 0 {
			n = id(c.Intn(c.last + 10))
		}
		wantL, wantE, want := insideByRule(c.p, l, e, n)
		got, found, ok := types.Inside(c.p, l, e, n)
		if ok != want || !slices.EqualFunc(got, wantL, sameBound) || !sameExpr(found, wantE) {
			t.Fatalf("P9.3: in %+v with %+v Inside of %+v and %v returns %v, %+v, %v, not %v, %+v, %v", c.p, l, e, n, got, found, ok, wantL, wantE, want)
		}
		counts[count{want, api.ErrNone, 0}]++
	}
	for _, path := range paths {
		if n := nodeAt(e, path); wantCode == api.OK || n.ID == wantID {
			counts[count{true, wantCode, n.Kind}]++
		}
	}
}

// sameExpr reports whether two expressions are equal.
func sameExpr(a, b api.Expr) bool {
	if !slices.EqualFunc(a.Kids, b.Kids, sameExpr) || !sameType(a.Type, b.Type) || !slices.Equal(a.Names, b.Names) {
		return false
	}
	a.Kids, a.Type, a.Names, b.Kids, b.Type, b.Names = nil, api.Type{}, nil, nil, api.Type{}, nil
	return reflect.DeepEqual(a, b)
}

// TestChance compares expressions of chance, of which most are wrong, with the rule.
func TestChance(t *testing.T) {
	counts := map[count]int{}
	for seed := range 2500 {
		c := newChance(seed)
		c.sharing = seed%3 == 0
		l := c.bounds()
		e := c.expr(c.typeOf(2), l, 1+c.Intn(3))
		other := c.expr(c.typeOf(2), l, 3)
		compare(t, c, l, e, counts)
		for range 4 {
			e = changed(e, pick(c, pathsByRule(e)...), c.spoil)
			compare(t, c, l, e, counts)
		}
		c.spoilProgram()
		compare(t, c, l, e, counts)
		compare(t, c, l, other, counts)
	}
	enough := func(x count) {
		if counts[x] < 30 {
			t.Errorf("there are only %d of %+v", counts[x], x)
		}
	}
	for kind := range api.NFold + 1 {
		enough(count{true, api.OK, kind})
		enough(count{true, api.ErrType, kind})
	}
	for _, kind := range []int{api.NVar, api.NCall, api.NRec, api.NField, api.NCase, api.NMatch, api.NList} {
		enough(count{true, api.ErrDead, kind})
	}
	enough(count{true, api.ErrNone, 0})
	enough(count{false, api.ErrNone, 0})
}

// TestSound checks P9.5 for sound programs.
func TestSound(t *testing.T) {
	for seed := range 2000 {
		c := newChance(seed)
		for _, d := range c.p.Defs[c.data:] {
			if n, code := types.Fits(c.p, bound(d.Slots), d.Body, d.Result); n != (api.ID{}) || code != api.OK {
				t.Fatalf("P9.5: in %+v the body of %s does not fit: %d at %v", c.p, d.Name, code, n)
			}
		}
	}
}

// TestReplacing checks P9.6: a node is replaced by an expression that has its type with what is bound there.
func TestReplacing(t *testing.T) {
	for seed := range 2000 {
		c := newChance(seed)
		l := c.bounds()
		want := c.typeOf(2)
		e := c.expr(want, l, 1+c.Intn(4))
		for range 5 {
			path := pick(c, pathsByRule(e)...)
			around, node, ok := types.Inside(c.p, l, e, nodeAt(e, path).ID)
			if !ok {
				t.Fatalf("P9.3: in %+v the node at %v of %+v is not found", c.p, path, e)
			}
			x, n, code := types.Infer(c.p, around, node)
			if code != api.OK {
				t.Fatalf("P9.6: in %+v the node %+v has no type with %v: %d at %v", c.p, node, around, code, n)
			}
			other := c.expr(x, around, 1+c.Intn(2))
			if _, code := types.Fits(c.p, around, other, x); code != api.OK {
				t.Fatalf("P9.6: in %+v the expression %+v is none of the type %v with %v: %d", c.p, other, x, around, code)
			}
			e = changed(e, path, func(e *api.Expr) { *e = other })
			if got, n, code := types.Infer(c.p, l, e); !sameType(got, want) || code != api.OK {
				t.Fatalf("P9.6: in %+v the replacement of %+v changes the type to %v, %d at %v", c.p, node, got, code, n)
			}
		}
	}
}

// TestBound checks P9.7: only what is free counts, and all of it.
func TestBound(t *testing.T) {
	without := 0
	for seed := range 4000 {
		c := newChance(seed)
		c.sharing = seed%2 == 0
		l := c.bounds()
		want := c.typeOf(2)
		e := c.expr(want, l, 1+c.Intn(4))
		free := types.Free(e)
		isFree := func(x types.Bound) bool {
			return slices.ContainsFunc(free, func(y types.Bound) bool { return x.ID == y.ID && x.N == y.N })
		}
		var alone []types.Bound
		for _, x := range l {
			if isFree(x) {
				alone = append(alone, x)
			}
		}
		for _, bounds := range [][]types.Bound{l, alone, slices.Concat(c.bounds(), c.bounds(), l), slices.Concat(c.bounds(), alone)} {
			if got, n, code := types.Infer(c.p, bounds, e); !sameType(got, want) || code != api.OK {
				t.Fatalf("P9.7: in %+v with %v the expression %+v has the type %v, %d at %v, not %v", c.p, bounds, e, got, code, n, want)
			}
		}
		for _, x := range free {
			others := slices.DeleteFunc(slices.Clone(l), func(y types.Bound) bool { return x.ID == y.ID && x.N == y.N })
			if got, _, code := types.Infer(c.p, others, e); code != api.ErrDead {
				t.Fatalf("P9.7: in %+v with %v the expression %+v has the type %v, %d", c.p, others, e, got, code)
			}
			without++
		}
	}
	if without < 1000 {
		t.Errorf("only %d variables are free", without)
	}
}

// TestNames checks P9.8: bodies are written with names, and bound again.
func TestNames(t *testing.T) {
	free := 0
	for seed := range 2000 {
		c := newChance(seed)
		for _, d := range c.p.Defs[c.data:] {
			f, code := scope.Unbind(c.p, d.ID)
			if code != api.OK {
				t.Fatalf("in %+v there is no form of %+v: %d", c.p, d, code)
			}
			next := make([]api.ID, 1+len(d.Slots)+len(pathsByRule(d.Body)))
			for i := range next {
				next[i] = id(5000 + i)
			}
			again, _, code := scope.Bind(c.p, d.Mod, f, next)
			if code != api.OK {
				t.Fatalf("in %+v the form %+v is not bound: %d", c.p, f, code)
			}
			got, n, code := types.Infer(c.p, bound(again.Slots), again.Body)
			if !sameType(got, d.Result) || code != api.OK || len(types.Free(again.Body)) != len(types.Free(d.Body)) {
				t.Fatalf("P9.8: in %+v the body of %+v, bound again as %+v, has the type %v, %d at %v", c.p, d, again, got, code, n)
			}
			free += len(types.Free(d.Body))
		}
	}
	if free < 1000 {
		t.Errorf("only %d variables are free", free)
	}
}
