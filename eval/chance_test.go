package eval_test

import (
	"math/rand"
	"slices"
	"strconv"
	"testing"

	"splicery/api"
	"splicery/check"
	"splicery/eval"
	"splicery/value"
)

// bound is a name that stands for a value of a type.
type bound struct {
	id api.ID
	n  int
	t  api.Type
}

// chance makes sound programs of chance, and expressions that have a type.
type chance struct {
	*rand.Rand
	p       api.Prog
	data    []api.Def // the definitions that are types
	calls   []api.Def // those that nodes may call: they stand in front of the one that is being made
	last    int       // the index of the last ID
	sharing bool      // whether nodes may have IDs that others have
}

// pick returns an element of a list.
func pick[T any](c *chance, l ...T) T { return l[c.Intn(len(l))] }

// fresh returns an ID that nothing has.
func (c *chance) fresh() api.ID {
	c.last++
	return id(c.last)
}

// next returns the ID of a node.
func (c *chance) next() api.ID {
	if c.sharing && c.Intn(4) == 0 {
		return id(1 + c.Intn(c.last))
	}
	return c.fresh()
}

func newChance(t *testing.T, seed int) *chance {
	t.Helper()
	c := &chance{Rand: rand.New(rand.NewSource(int64(seed)))}
	c.types()
	c.sharing = seed%2 == 1
	for range 3 + c.Intn(4) {
		c.define(pick(c, api.KFun, api.KFun, api.KFun, api.KOn, api.KTest, api.KConv))
	}
	if l := check.All(c.p); len(l) > 0 {
		t.Fatalf("the program of %d is not sound: %+v of %+v", seed, l, c.p)
	}
	return c
}

// add adds a definition to the program.
func (c *chance) add(d api.Def) {
	c.p.Defs = append(c.p.Defs, d)
	if d.Kind <= api.KCase {
		c.data = append(c.data, d)
	}
}

// start returns a definition with slots.
func (c *chance) start(kind int, l ...api.Type) api.Def {
	d := api.Def{ID: c.fresh(), Kind: kind, Mod: id(0), Name: "d" + strconv.Itoa(len(c.p.Defs)), Place: len(c.p.Defs)}
	for i, t := range l {
		d.Slots = append(d.Slots, api.Slot{ID: c.fresh(), Name: string(rune('a' + i)), Type: t, Place: i})
	}
	return d
}

// some returns up to three types, and at least a number of them.
func (c *chance) some(least int) []api.Type {
	var l []api.Type
	for range least + c.Intn(4-least) {
		l = append(l, c.typeOf(2))
	}
	return l
}

// types makes definitions that are types. Among them are a state, its events and what a handler makes of them.
func (c *chance) types() {
	for range 1 + c.Intn(3) {
		c.add(c.start(pick(c, api.KRec, api.KCase), c.some(1)...))
	}
	state := c.typeOf(1)
	c.add(c.start(api.KCase, append([]api.Type{whole}, c.some(0)...)...))
	c.add(c.start(api.KRec, state, listOf(whole), whole))
}

// define makes a definition with a body.
func (c *chance) define(kind int) {
	d := c.start(kind, c.some(0)...)
	d.Result = c.typeOf(2)
	switch kind {
	case api.KConv:
		d = c.start(kind, c.typeOf(2))
		d.Result = c.typeOf(2)
	case api.KOn:
		result := c.data[len(c.data)-1]
		d = c.start(kind, result.Slots[0].Type, api.Type{Kind: api.TDef, Def: c.data[len(c.data)-2].ID})
		d.Result = api.Type{Kind: api.TDef, Def: result.ID}
	}
	var l []bound
	for i := range d.Slots {
		if kind == api.KTest {
			d.Slots[i].Most = c.Intn(65)
		}
		l = append(l, bound{d.Slots[i].ID, 0, d.Slots[i].Type})
	}
	d.Body = c.expr(d.Result, l, 1+c.Intn(5))
	c.add(d)
	if kind == api.KFun || kind == api.KConv {
		c.calls = append(c.calls, d)
	}
}

// typeOf returns a type of the definitions that are there.
func (c *chance) typeOf(depth int) api.Type {
	switch c.Intn(6) {
	case 0:
		return truth
	case 1, 2:
		if depth > 0 {
			return listOf(c.typeOf(depth - 1))
		}
	case 3, 4:
		if len(c.data) > 0 {
			return api.Type{Kind: api.TDef, Def: pick(c, c.data...).ID}
		}
	}
	return whole
}

// number returns a number of the language.
func (c *chance) number() int {
	n := pick(c, 0, 1, 2, 3, 7, 1+c.Intn(1000), api.MaxInt/2, api.MaxInt-1, api.MaxInt)
	return pick(c, n, -n)
}

// variables returns the names that have a type, where l is bound.
func variables(l []bound, t api.Type) []bound {
	var some []bound
	for i, x := range l {
		hidden := slices.ContainsFunc(l[i+1:], func(y bound) bool { return x.id == y.id && x.n == y.n })
		if !hidden && value.SameType(x.t, t) {
			some = append(some, x)
		}
	}
	return some
}

// expr returns an expression with a type, where l is bound.
func (c *chance) expr(t api.Type, l []bound, depth int) api.Expr {
	if some := variables(l, t); len(some) > 0 && (depth <= 0 || c.Intn(4) == 0) {
		x := pick(c, some...)
		return api.Expr{ID: c.next(), Kind: api.NVar, Ref: x.id, N: x.n}
	}
	if depth > 0 {
		for range 2 {
			if e, ok := c.general(t, l, depth-1); ok {
				return e
			}
		}
	}
	return c.own(t, l, depth-1)
}

// general returns an expression of a kind that may have any type; false, if there is none.
func (c *chance) general(t api.Type, l []bound, depth int) (api.Expr, bool) {
	e := api.Expr{ID: c.next(), Kind: pick(c, api.NCall, api.NCall, api.NIf, api.NLet, api.NField, api.NMatch, api.NFold)}
	kid := func(t api.Type, more ...bound) {
		e.Kids = append(e.Kids, c.expr(t, slices.Concat(l, more), depth))
	}
	switch e.Kind {
	case api.NIf:
		kid(truth)
		kid(t)
		kid(t)
		return e, true
	case api.NLet:
		x := c.typeOf(2)
		kid(x)
		kid(t, bound{e.ID, 0, x})
		return e, true
	case api.NFold:
		x := c.typeOf(1)
		kid(listOf(x))
		kid(t)
		kid(t, bound{e.ID, 0, x}, bound{e.ID, 1, t})
		return e, true
	}
	d := pick(c, append(c.data, c.calls...)...)
	e.Ref = d.ID
	self := api.Type{Kind: api.TDef, Def: d.ID}
	switch place := c.Intn(4); {
	case e.Kind == api.NCall && d.Kind > api.KCase && value.SameType(d.Result, t):
		for _, s := range d.Slots {
			kid(s.Type)
		}
	case e.Kind == api.NField && d.Kind == api.KRec && place < len(d.Slots) && value.SameType(d.Slots[place].Type, t):
		e.N = place
		kid(self)
	case e.Kind == api.NMatch && d.Kind == api.KCase:
		kid(self)
		for i, s := range d.Slots {
			kid(t, bound{e.ID, i, s.Type})
		}
	default:
		return e, false
	}
	return e, true
}

// own returns an expression of a kind that has types of this kind only.
func (c *chance) own(t api.Type, l []bound, depth int) api.Expr {
	e := api.Expr{ID: c.next(), Kind: api.NOp}
	kids := func(all ...api.Type) {
		for _, x := range all {
			e.Kids = append(e.Kids, c.expr(x, l, depth))
		}
	}
	switch t.Kind {
	case api.TInt:
		if depth <= 0 {
			return api.Expr{ID: e.ID, Kind: api.NInt, N: c.number()}
		}
		if e.N = pick(c, api.Add, api.Sub, api.Mul, api.Div, api.Rem, api.Len); e.N == api.Len {
			kids(listOf(c.typeOf(1)))
		} else {
			kids(whole, whole)
		}
	case api.TBool:
		if depth <= 0 {
			return api.Expr{ID: e.ID, Kind: api.NBool, N: c.Intn(2)}
		}
		x := c.typeOf(2)
		e.N = pick(c, api.Less, api.Same, api.Same, api.And, api.Or, api.Not)
		kids(map[int][]api.Type{api.Less: {whole, whole}, api.Same: {x, x}, api.And: {truth, truth}, api.Or: {truth, truth}, api.Not: {truth}}[e.N]...)
	case api.TList:
		if e.N = api.Join; depth > 0 && c.Intn(2) == 0 {
			kids(t, t)
			break
		}
		e.Kind, e.N, e.Type = api.NList, 0, t.Kids[0]
		kids(slices.Repeat([]api.Type{t.Kids[0]}, c.Intn(max(depth, 1)+1))...)
	case api.TDef:
		d := c.data[slices.IndexFunc(c.data, func(d api.Def) bool { return d.ID == t.Def })]
		e.Ref = d.ID
		if d.Kind == api.KCase {
			e.Kind, e.N = api.NCase, c.Intn(len(d.Slots))
			kids(d.Slots[e.N].Type)
			break
		}
		e.Kind = api.NRec
		for _, s := range d.Slots {
			kids(s.Type)
		}
	}
	return e
}

// value returns a value of a type, of not much more than a number of nodes, if it can be.
func (c *chance) value(t api.Type, nodes int) api.Value {
	switch t.Kind {
	case api.TInt:
		return number(c.number())
	case api.TBool:
		return boolean(c.Intn(2) == 1)
	case api.TList:
		v := values()
		for n := c.Intn(max(nodes, 1)); n > 0; {
			kid := c.value(t.Kids[0], n-1)
			n -= value.Size(kid)
			v.Kids = append(v.Kids, kid)
		}
		return v
	}
	d := c.data[slices.IndexFunc(c.data, func(d api.Def) bool { return d.ID == t.Def })]
	if d.Kind == api.KCase {
		n := c.Intn(len(d.Slots))
		return variant(n, c.value(d.Slots[n].Type, nodes-1))
	}
	v := record()
	for _, s := range d.Slots {
		v.Kids = append(v.Kids, c.value(s.Type, nodes/len(d.Slots)))
	}
	return v
}

// args returns values for the slots of a definition.
func (c *chance) args(d api.Def) []api.Value {
	for {
		var l []api.Value
		nodes := pick(c, 2, 8, 8, 30, 250)
		for _, s := range d.Slots {
			l = append(l, c.value(s.Type, nodes))
		}
		if !slices.ContainsFunc(l, func(v api.Value) bool { return value.Size(v) > 256 }) {
			return l
		}
	}
}

// literalOf returns an expression of literals with a value of a type.
func (c *chance) literalOf(t api.Type, v api.Value) api.Expr {
	e := literal(v)
	if t.Kind == api.TList {
		e.Type = t.Kids[0]
	}
	for i := range e.Kids {
		x := t
		switch d, _ := value.Def(c.p, t.Def); v.Kind {
		case api.VList:
			x = t.Kids[0]
		case api.VRec:
			x, e.Ref = d.Slots[i].Type, d.ID
		case api.VCase:
			x, e.Ref = d.Slots[v.N].Type, d.ID
		}
		e.Kids[i] = c.literalOf(x, v.Kids[i])
	}
	return e
}

// renamed returns a copy of a program in which all names, modules, places and layouts are others.
func (c *chance) renamed(p api.Prog) api.Prog {
	q := api.Prog{Mods: []api.Mod{{ID: c.next(), Name: "x", Uses: []api.ID{c.next()}, Defs: []api.ID{c.next()}}}}
	var rename func(e api.Expr) api.Expr
	rename = func(e api.Expr) api.Expr {
		e.Names = pick(c, nil, []string{"x"}, []string{"", "if", "y"})
		var kids []api.Expr
		for _, kid := range e.Kids {
			kids = append(kids, rename(kid))
		}
		e.Kids = kids
		return e
	}
	for _, d := range p.Defs {
		d.Name, d.Mod, d.Place, d.Layout = pick(c, "", "a", "if"), c.next(), c.Intn(9)-4, pick(c, nil, []string{"", " "})
		d.Body = rename(d.Body)
		d.Slots = slices.Clone(d.Slots)
		for i := range d.Slots {
			d.Slots[i].Name, d.Slots[i].Place = pick(c, "", "a", "if"), c.Intn(9)-4
		}
		q.Defs = append(q.Defs, d)
	}
	return q
}

// count is what is counted of the results.
type count struct {
	what string
	n    int
}

// compare checks what is returned for a definition of a program, and counts how it ends.
func compare(t *testing.T, c *chance, d api.Def, counts map[count]int) {
	t.Helper()
	many := pick(c, 5, 50, 3000, 3000)
	most := eval.Most(c.p, d.ID)
	if want := mostByRule(c.p, d.ID); most != want {
		t.Fatalf("P11.4: in %+v the definition %v has the bound %d, not %d", c.p, d.ID, most, want)
	}
	args := c.args(d)
	want, steps, code := callByRule(c.p, d.ID, args, many)
	counts[count{"call", int(code)}]++
	renamed := c.renamed(c.p)
	if n := eval.Most(renamed, d.ID); n != most {
		t.Fatalf("P11.8: in %+v the definition %v has the bound %d with other names, not %d", c.p, d.ID, n, most)
	}
	for _, p := range []api.Prog{c.p, renamed} {
		if got, n, e := eval.Call(p, d.ID, args, many); !equal(got, want) || n != steps || e != code {
			t.Fatalf("P11.1, P11.8: in %+v the call of %v for %+v is %+v after %d steps (error %d), not %+v after %d (error %d)", p, d.ID, args, got, n, e, want, steps, code)
		}
	}
	if code == api.OK {
		if !value.Valid(c.p, d.Result, want) {
			t.Fatalf("P11.6: in %+v the call of %v for %+v is %+v, which is not of its type", c.p, d.ID, args, want)
		}
		if most >= 0 && steps > most {
			t.Fatalf("P11.7: in %+v the call of %v for %+v has %d steps, at most %d", c.p, d.ID, args, steps, most)
		}
		if most < 0 {
			counts[count{"unbounded", 0}]++
		} else if most == steps {
			counts[count{"bound", 0}]++
		}
		gives(t, "a call", calls(c.p, d.ID.Index, args...), want, steps)
	}
	if code != api.OK && code != api.ErrFuel && code != api.ErrLimit {
		t.Fatalf("P11.6: in %+v the call of %v for %+v fails with %d", c.p, d.ID, args, code)
	}
	for fuel := steps; fuel > 0; fuel = fuel * 3 / 4 {
		fails(t, "a call with too little fuel", calls(c.p, d.ID.Index, args...), fuel-1, api.ErrFuel)
	}
	compareCall(t, c, d, args, counts)
}

// compareCall checks a node that calls a definition, with literals and with other kids (P11.9).
func compareCall(t *testing.T, c *chance, d api.Def, args []api.Value, counts map[count]int) {
	t.Helper()
	many := pick(c, 10, 100, 5000, 5000)
	for what := range 2 {
		e := api.Expr{Kind: api.NCall, Ref: d.ID}
		all, code := 0, api.OK
		for i, s := range d.Slots {
			kid := c.literalOf(s.Type, args[i])
			if what == 1 {
				kid = c.expr(s.Type, nil, 1+c.Intn(3))
			}
			e.Kids = append(e.Kids, kid)
			v, n, e := eval.Expr(c.p, kid, many)
			if what == 0 && e == api.OK && !equal(v, args[i]) {
				t.Fatalf("P11.2: in %+v the literal %+v has the value %+v, not %+v", c.p, kid, v, args[i])
			}
			if e != api.OK && code == api.OK {
				code = e
			}
			args[i], all = v, all+n
		}
		want, steps, wantCode := exprByRule(c.p, e, many)
		got, n, gotCode := eval.Expr(c.p, e, many)
		if !equal(got, want) || n != steps || gotCode != wantCode {
			t.Fatalf("P11.2: in %+v the node %+v is %+v after %d steps (error %d), not %+v after %d (error %d)", c.p, e, got, n, gotCode, want, steps, wantCode)
		}
		counts[count{"node", int(gotCode)}]++
		if code != api.OK {
			return
		}
		v, n, code := eval.Call(c.p, d.ID, args, many)
		if gotCode == api.OK && (code != api.OK || !equal(v, got) || steps != 1+all+n) {
			t.Fatalf("P11.9: in %+v the node %+v is %+v after %d steps, the call %+v after %d, its kids have %d (error %d)", c.p, e, got, steps, v, n, all, code)
		}
	}
}

// TestChance compares sound programs of chance with the rule.
func TestChance(t *testing.T) {
	counts := map[count]int{}
	for seed := range 2500 {
		c := newChance(t, seed)
		var visit func(e api.Expr)
		visit = func(e api.Expr) {
			counts[count{"kind", e.Kind}]++
			if e.Kind == api.NOp {
				counts[count{"operation", e.N}]++
			}
			for _, kid := range e.Kids {
				visit(kid)
			}
		}
		for _, d := range c.p.Defs {
			if d.Kind > api.KCase {
				visit(d.Body)
				compare(t, c, d, counts)
			}
		}
	}
	enough := func(what string, n, least int) {
		if counts[count{what, n}] < least {
			t.Errorf("there are only %d of %s %d", counts[count{what, n}], what, n)
		}
	}
	for kind := range api.NFold + 1 {
		enough("kind", kind, 1000)
	}
	for n := range api.Len + 1 {
		enough("operation", n, 300)
	}
	for _, what := range []string{"call", "node"} {
		enough(what, int(api.OK), 5000)
		enough(what, int(api.ErrFuel), 50)
		enough(what, int(api.ErrLimit), 20)
	}
	enough("bound", 0, 500)
	enough("unbounded", 0, 500)
}
