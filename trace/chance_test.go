package trace_test

import (
	"math/rand"
	"slices"
	"strconv"
	"testing"

	"splicery/api"
	"splicery/check"
	"splicery/eval"
	"splicery/trace"
	"splicery/types"
	"splicery/value"
)

// bound is a name that stands for a value of a type.
type bound struct {
	id api.ID
	n  int
	t  api.Type
}

// chance makes sound programs of chance, and expressions that have a type.
type chance struct {
	*rand.Rand
	p       api.Prog
	data    []api.Def // the definitions that are types
	calls   []api.Def // those that nodes may call: they stand in front of the one that is being made
	last    int       // the index of the last ID
	sharing bool      // whether nodes may have IDs that others have
}

// pick returns an element of a list.
func pick[T any](c *chance, l ...T) T { return l[c.Intn(len(l))] }

// fresh returns an ID that nothing has.
func (c *chance) fresh() api.ID {
	c.last++
	return id(c.last)
}

// next returns the ID of a node.
func (c *chance) next() api.ID {
	if c.sharing && c.Intn(4) == 0 {
		return id(1 + c.Intn(c.last))
	}
	return c.fresh()
}

func newChance(t *testing.T, seed int) *chance {
	t.Helper()
	c := &chance{Rand: rand.New(rand.NewSource(int64(seed)))}
	c.types()
	c.sharing = seed%2 == 1
	for range 3 + c.Intn(4) {
		c.define(pick(c, api.KFun, api.KFun, api.KFun, api.KOn, api.KTest, api.KConv))
	}
	if l := check.All(c.p); len(l) > 0 {
		t.Fatalf("the program of %d is not sound: %+v of %+v", seed, l, c.p)
	}
	return c
}

// add adds a definition to the program.
func (c *chance) add(d api.Def) {
	c.p.Defs = append(c.p.Defs, d)
	if d.Kind <= api.KCase {
		c.data = append(c.data, d)
	}
}

// start returns a definition with slots.
func (c *chance) start(kind int, l ...api.Type) api.Def {
	d := api.Def{ID: c.fresh(), Kind: kind, Mod: id(0), Name: "d" + strconv.Itoa(len(c.p.Defs)), Place: len(c.p.Defs)}
	for i, t := range l {
		d.Slots = append(d.Slots, api.Slot{ID: c.fresh(), Name: string(rune('a' + i)), Type: t, Place: i})
	}
	return d
}

// some returns up to three types, and at least a number of them.
func (c *chance) some(least int) []api.Type {
	var l []api.Type
	for range least + c.Intn(4-least) {
		l = append(l, c.typeOf(2))
	}
	return l
}

// types makes definitions that are types. Among them are a state, its events and what a handler makes of them.
func (c *chance) types() {
	for range 1 + c.Intn(3) {
		c.add(c.start(pick(c, api.KRec, api.KCase), c.some(1)...))
	}
	state := c.typeOf(1)
	c.add(c.start(api.KCase, append([]api.Type{whole}, c.some(0)...)...))
	c.add(c.start(api.KRec, state, listOf(whole), whole))
}

// define makes a definition with a body.
func (c *chance) define(kind int) {
	d := c.start(kind, c.some(0)...)
	d.Result = c.typeOf(2)
	switch kind {
	case api.KConv:
		d = c.start(kind, c.typeOf(2))
		d.Result = c.typeOf(2)
	case api.KOn:
		result := c.data[len(c.data)-1]
		d = c.start(kind, result.Slots[0].Type, api.Type{Kind: api.TDef, Def: c.data[len(c.data)-2].ID})
		d.Result = api.Type{Kind: api.TDef, Def: result.ID}
	}
	var l []bound
	for i := range d.Slots {
		if kind == api.KTest {
			d.Slots[i].Most = c.Intn(65)
		}
		l = append(l, bound{d.Slots[i].ID, 0, d.Slots[i].Type})
	}
	d.Body = c.expr(d.Result, l, 1+c.Intn(5))
	c.add(d)
	if kind == api.KFun || kind == api.KConv {
		c.calls = append(c.calls, d)
	}
}

// typeOf returns a type of the definitions that are there.
func (c *chance) typeOf(depth int) api.Type {
	switch c.Intn(6) {
	case 0:
		return truth
	case 1, 2:
		if depth > 0 {
			return listOf(c.typeOf(depth - 1))
		}
	case 3, 4:
		if len(c.data) > 0 {
			return api.Type{Kind: api.TDef, Def: pick(c, c.data...).ID}
		}
	}
	return whole
}

// number returns a number of the language.
func (c *chance) number() int {
	n := pick(c, 0, 1, 2, 3, 7, 1+c.Intn(1000), api.MaxInt/2, api.MaxInt-1, api.MaxInt)
	return pick(c, n, -n)
}

// variables returns the names that have a type, where l is bound.
func variables(l []bound, t api.Type) []bound {
	var some []bound
	for i, x := range l {
		hidden := slices.ContainsFunc(l[i+1:], func(y bound) bool { return x.id == y.id && x.n == y.n })
		if !hidden && value.SameType(x.t, t) {
			some = append(some, x)
		}
	}
	return some
}

// expr returns an expression with a type, where l is bound.
func (c *chance) expr(t api.Type, l []bound, depth int) api.Expr {
	if some := variables(l, t); len(some) > 0 && (depth <= 0 || c.Intn(4) == 0) {
		x := pick(c, some...)
		return api.Expr{ID: c.next(), Kind: api.NVar, Ref: x.id, N: x.n}
	}
	if depth > 0 {
		for range 2 {
			if e, ok := c.general(t, l, depth-1); ok {
				return e
			}
		}
	}
	return c.own(t, l, depth-1)
}

// general returns an expression of a kind that may have any type; false, if there is none.
func (c *chance) general(t api.Type, l []bound, depth int) (api.Expr, bool) {
	e := api.Expr{ID: c.next(), Kind: pick(c, api.NCall, api.NCall, api.NIf, api.NLet, api.NField, api.NMatch, api.NFold)}
	kid := func(t api.Type, more ...bound) {
		e.Kids = append(e.Kids, c.expr(t, slices.Concat(l, more), depth))
	}
	switch e.Kind {
	case api.NIf:
		kid(truth)
		kid(t)
		kid(t)
		return e, true
	case api.NLet:
		x := c.typeOf(2)
		kid(x)
		kid(t, bound{e.ID, 0, x})
		return e, true
	case api.NFold:
		x := c.typeOf(1)
		kid(listOf(x))
		kid(t)
		kid(t, bound{e.ID, 0, x}, bound{e.ID, 1, t})
		return e, true
	}
	d := pick(c, append(c.data, c.calls...)...)
	e.Ref = d.ID
	self := api.Type{Kind: api.TDef, Def: d.ID}
	switch place := c.Intn(4); {
	case e.Kind == api.NCall && d.Kind > api.KCase && value.SameType(d.Result, t):
		for _, s := range d.Slots {
			kid(s.Type)
		}
	case e.Kind == api.NField && d.Kind == api.KRec && place < len(d.Slots) && value.SameType(d.Slots[place].Type, t):
		e.N = place
		kid(self)
	case e.Kind == api.NMatch && d.Kind == api.KCase:
		kid(self)
		for i, s := range d.Slots {
			kid(t, bound{e.ID, i, s.Type})
		}
	default:
		return e, false
	}
	return e, true
}

// own returns an expression of a kind that has types of this kind only.
func (c *chance) own(t api.Type, l []bound, depth int) api.Expr {
	e := api.Expr{ID: c.next(), Kind: api.NOp}
	kids := func(all ...api.Type) {
		for _, x := range all {
			e.Kids = append(e.Kids, c.expr(x, l, depth))
		}
	}
	switch t.Kind {
	case api.TInt:
		if depth <= 0 {
			return api.Expr{ID: e.ID, Kind: api.NInt, N: c.number()}
		}
		if e.N = pick(c, api.Add, api.Sub, api.Mul, api.Div, api.Rem, api.Len); e.N == api.Len {
			kids(listOf(c.typeOf(1)))
		} else {
			kids(whole, whole)
		}
	case api.TBool:
		if depth <= 0 {
			return api.Expr{ID: e.ID, Kind: api.NBool, N: c.Intn(2)}
		}
		x := c.typeOf(2)
		e.N = pick(c, api.Less, api.Same, api.Same, api.And, api.Or, api.Not)
		kids(map[int][]api.Type{api.Less: {whole, whole}, api.Same: {x, x}, api.And: {truth, truth}, api.Or: {truth, truth}, api.Not: {truth}}[e.N]...)
	case api.TList:
		if e.N = api.Join; depth > 0 && c.Intn(2) == 0 {
			kids(t, t)
			break
		}
		e.Kind, e.N, e.Type = api.NList, 0, t.Kids[0]
		kids(slices.Repeat([]api.Type{t.Kids[0]}, c.Intn(max(depth, 1)+1))...)
	case api.TDef:
		d := c.data[slices.IndexFunc(c.data, func(d api.Def) bool { return d.ID == t.Def })]
		e.Ref = d.ID
		if d.Kind == api.KCase {
			e.Kind, e.N = api.NCase, c.Intn(len(d.Slots))
			kids(d.Slots[e.N].Type)
			break
		}
		e.Kind = api.NRec
		for _, s := range d.Slots {
			kids(s.Type)
		}
	}
	return e
}

// value returns a value of a type, of not much more than a number of nodes, if it can be.
func (c *chance) value(t api.Type, nodes int) api.Value {
	switch t.Kind {
	case api.TInt:
		return number(c.number())
	case api.TBool:
		return boolean(c.Intn(2) == 1)
	case api.TList:
		v := values()
		for n := c.Intn(max(nodes, 1)); n > 0; {
			kid := c.value(t.Kids[0], n-1)
			n -= value.Size(kid)
			v.Kids = append(v.Kids, kid)
		}
		return v
	}
	d := c.data[slices.IndexFunc(c.data, func(d api.Def) bool { return d.ID == t.Def })]
	if d.Kind == api.KCase {
		n := c.Intn(len(d.Slots))
		return variant(n, c.value(d.Slots[n].Type, nodes-1))
	}
	v := record()
	for _, s := range d.Slots {
		v.Kids = append(v.Kids, c.value(s.Type, nodes/len(d.Slots)))
	}
	return v
}

// args returns values for the slots of a definition.
func (c *chance) args(d api.Def) []api.Value {
	for {
		var l []api.Value
		nodes := pick(c, 2, 8, 8, 30, 250)
		for _, s := range d.Slots {
			l = append(l, c.value(s.Type, nodes))
		}
		if !slices.ContainsFunc(l, func(v api.Value) bool { return value.Size(v) > 256 }) {
			return l
		}
	}
}

// renamed returns a copy of a program in which all names, modules, places and layouts are others.
func (c *chance) renamed(p api.Prog) api.Prog {
	q := api.Prog{Mods: []api.Mod{{ID: c.next(), Name: "x", Uses: []api.ID{c.next()}, Defs: []api.ID{c.next()}}}}
	var rename func(e api.Expr) api.Expr
	rename = func(e api.Expr) api.Expr {
		e.Names = pick(c, nil, []string{"x"}, []string{"", "if", "y"})
		var kids []api.Expr
		for _, kid := range e.Kids {
			kids = append(kids, rename(kid))
		}
		e.Kids = kids
		return e
	}
	for _, d := range p.Defs {
		d.Name, d.Mod, d.Place, d.Layout = pick(c, "", "a", "if"), c.next(), c.Intn(9)-4, pick(c, nil, []string{"", " "})
		d.Body = rename(d.Body)
		d.Slots = slices.Clone(d.Slots)
		for i := range d.Slots {
			d.Slots[i].Name, d.Slots[i].Place = pick(c, "", "a", "if"), c.Intn(9)-4
		}
		q.Defs = append(q.Defs, d)
	}
	return q
}

// count is what is counted of the results.
type count struct {
	what string
	n    int
}

// compare checks the trace of a call of a definition of a program, with much and with little fuel, and counts how it ends.
func compare(t *testing.T, c *chance, d api.Def, args []api.Value, counts map[count]int) {
	t.Helper()
	many := pick(c, 5, 50, 3000, 3000)
	want, asked, steps, code := callByRule(c.p, d.ID, args, many)
	counts[count{"call", int(code)}]++
	for _, p := range []api.Prog{c.p, c.renamed(c.p)} {
		got, tr, e := trace.Call(p, d.ID, args, many)
		if !equal(got, want) || !same(tr, asked) || e != code {
			t.Fatalf("P12.1, P12.7: in %+v the call of %v for %+v is %+v and asks %v (error %d), not %+v and %v (error %d)", p, d.ID, args, got, tr, e, want, asked, code)
		}
		if v, n, e := eval.Call(p, d.ID, args, many); !equal(got, v) || e != code || code == api.OK && n != steps {
			t.Fatalf("P12.1: in %+v the call of %v for %+v is %+v, not %+v after %d steps (error %d)", p, d.ID, args, got, v, n, e)
		}
	}
	if code != api.OK && !equal(want, api.Value{}) {
		t.Fatalf("P12.1: in %+v the call of %v for %+v is %+v with the error %d", c.p, d.ID, args, want, code)
	}
	connected(t, c, asked, code)
	for fuel := steps * 4 / 5; fuel > 0; fuel = fuel * 2 / 3 {
		_, less, steps, code := callByRule(c.p, d.ID, args, fuel)
		v, got, e := trace.Call(c.p, d.ID, args, fuel)
		if !same(got, less) || e != code || e != api.ErrFuel || !equal(v, api.Value{}) {
			t.Fatalf("P12.1: in %+v the call of %v for %+v asks %v with the fuel %d (error %d), not %v (error %d)", c.p, d.ID, args, got, fuel, e, less, code)
		}
		if !contains(asked, got) || len(got.Nodes) > steps {
			t.Fatalf("P12.6: in %+v the call of %v for %+v asks %v with the fuel %d, and %v with %d", c.p, d.ID, args, got, fuel, asked, many)
		}
		connected(t, c, got, e)
	}
}

// connected checks that each node of a trace is the root of a body of one of its definitions or a kid of another one of its nodes, and that what its calls name has been evaluated (P12.8).
func connected(t *testing.T, c *chance, tr trace.Trace, code api.Errno) {
	t.Helper()
	if c.sharing { // then an ID does not say which node it is
		return
	}
	may, nodes := map[api.ID]bool{}, map[api.ID]bool{}
	for _, id := range tr.Nodes {
		nodes[id] = true
	}
	var visit func(e api.Expr)
	visit = func(e api.Expr) {
		for _, kid := range e.Kids {
			may[kid.ID] = may[kid.ID] || nodes[e.ID]
			visit(kid)
		}
		if d, _ := firstByRule(c.p, e.Ref); e.Kind == api.NCall && nodes[e.ID] && code == api.OK && (!nodes[d.Body.ID] || !slices.Contains(tr.Defs, d.ID)) {
			t.Fatalf("P12.8: in %+v the call %v is asked without what it names: %v", c.p, e.ID, tr)
		}
	}
	for _, d := range c.p.Defs {
		if bodyByRule(d) {
			may[d.Body.ID] = slices.Contains(tr.Defs, d.ID)
			visit(d.Body)
		}
	}
	for _, id := range tr.Nodes {
		if !may[id] {
			t.Fatalf("P12.8: in %+v the node %v is asked, but not what is around it: %v", c.p, id, tr)
		}
	}
}

// TestChance compares calls in sound programs of chance with the rule.
func TestChance(t *testing.T) {
	counts := map[count]int{}
	for seed := range 1500 {
		c := newChance(t, seed)
		for _, d := range c.p.Defs {
			if !bodyByRule(d) {
				continue
			}
			args := c.args(d)
			compare(t, c, d, args, counts)
			_, tr, _ := trace.Call(c.p, d.ID, args, plenty)
			counts[count{"definitions", min(len(tr.Defs), 4)}]++
			for _, e := range all(d.Body) {
				asked := 0
				if slices.Contains(tr.Nodes, e.ID) {
					asked = 1
				}
				counts[count{"kind " + strconv.Itoa(e.Kind), asked}]++
			}
		}
	}
	enough := func(what string, n, least int) {
		if counts[count{what, n}] < least {
			t.Errorf("there are only %d of %s %d", counts[count{what, n}], what, n)
		}
	}
	for kind := range api.NFold + 1 {
		enough("kind "+strconv.Itoa(kind), 0, 100)
		enough("kind "+strconv.Itoa(kind), 1, 300)
	}
	for n := 1; n <= 4; n++ {
		enough("definitions", n, 300)
	}
	enough("call", int(api.OK), 3000)
	enough("call", int(api.ErrFuel), 50)
	enough("call", int(api.ErrLimit), 10)
}

// all returns the nodes of an expression.
func all(e api.Expr) []api.Expr {
	l := []api.Expr{e}
	for _, kid := range e.Kids {
		l = append(l, all(kid)...)
	}
	return l
}

// changedProg returns a sound program that differs from that of c in up to three ways.
func (c *chance) changedProg() api.Prog {
	for {
		q := clone(c.p)
		for range 1 + c.Intn(3) {
			c.change(&q)
		}
		if len(check.All(q)) == 0 {
			return q
		}
	}
}

// change changes something in a program, after which it may be sound. Types stay without circles.
func (c *chance) change(q *api.Prog) {
	i := c.Intn(len(q.Defs))
	d := &q.Defs[i]
	e := nodeAt(&d.Body, pick(c, paths(d.Body)...))
	isSound := len(check.All(*q)) == 0
	switch c.Intn(15) {
	case 0:
		q.Defs = slices.Delete(q.Defs, i, i+1)
	case 1:
		if other := c.in(*q, len(q.Defs)); isSound && len(other.data) > 0 {
			other.define(pick(c, api.KFun, api.KTest, api.KConv))
			*q, c.last = other.p, other.last
		}
	case 2:
		d.Slots = append(d.Slots, api.Slot{ID: c.fresh(), Type: c.in(*q, i).typeOf(1)})
	case 3:
		if len(d.Slots) > 1 {
			d.Slots = d.Slots[:len(d.Slots)-1]
		}
	case 4:
		for j := range d.Slots {
			d.Slots[j].Type = pick(c, d.Slots[j].Type, c.in(*q, i).typeOf(1))
		}
	case 5:
		for j := range d.Slots {
			d.Slots[j].Most = c.Intn(65)
		}
	case 6:
		if len(d.Slots) > 0 {
			d.Kind = c.Intn(6)
		}
	case 7:
		d.Result = c.typeOf(1)
	case 8:
		e.ID = c.fresh()
	case 9:
		slices.Reverse(e.Kids)
	case 10:
		e.N++
	case 11:
		*q = c.renamed(*q)
	default:
		if other := c.in(*q, i); isSound && len(other.data) > 0 && bodyByRule(*d) {
			other.replace(*d, e)
			c.last = other.last
		}
	}
}

// in returns a maker of expressions for the definition of a program at a place, which names those in front of it.
func (c *chance) in(p api.Prog, place int) *chance {
	other := *c
	other.p, other.data, other.calls = p, nil, nil
	for _, d := range p.Defs[:place] {
		switch d.Kind {
		case api.KRec, api.KCase:
			other.data = append(other.data, d)
		case api.KFun, api.KConv:
			other.calls = append(other.calls, d)
		}
	}
	return &other
}

// replace replaces a node of a definition by an expression of its type.
func (c *chance) replace(d api.Def, e *api.Expr) {
	var slots []types.Bound
	for _, s := range d.Slots {
		slots = append(slots, types.Bound{ID: s.ID, Type: s.Type})
	}
	around, node, _ := types.Inside(c.p, slots, d.Body, e.ID)
	var l []bound
	for _, b := range around {
		l = append(l, bound{b.ID, b.N, b.Type})
	}
	if t, _, code := types.Infer(c.p, around, node); code == api.OK {
		*e = c.expr(t, l, c.Intn(3))
	}
}

// TestUnchanged changes sound programs: what a call does not ask does not matter (P12.5).
func TestUnchanged(t *testing.T) {
	counts := map[string]int{}
	for seed := range 1500 {
		c := newChance(t, 2*seed)
		q := c.changedProg()
		changed := trace.Changed(c.p, q)
		if want := changedByRule(c.p, q); !slices.Equal(changed, want) {
			t.Fatalf("P12.4: from %+v to %+v %v change, not %v", c.p, q, changed, want)
		}
		if l := trace.Changed(c.renamed(q), c.renamed(c.p)); !slices.Equal(changed, l) {
			t.Fatalf("P12.7: from %+v to %+v %v change, with other names %v", c.p, q, changed, l)
		}
		counts["changed IDs "+strconv.Itoa(min(len(changed), 2))]++
		for _, d := range c.p.Defs {
			if !bodyByRule(d) {
				continue
			}
			for range 3 {
				counts[unchanged(t, c, q, d, changed)]++
			}
		}
	}
	for _, what := range []string{"changed IDs 0", "changed IDs 1", "changed IDs 2", "asked, the same", "asked, another value", "asked, another trace", "not asked", "not asked with an error"} {
		if counts[what] < 50 {
			t.Errorf("there are only %d of: %s", counts[what], what)
		}
	}
}

// unchanged checks a call in two programs, and returns what is true of it.
func unchanged(t *testing.T, c *chance, q api.Prog, d api.Def, changed []api.ID) string {
	t.Helper()
	args, fuel := c.args(d), pick(c, 10, 100, 3000, 3000)
	v, tr, code := trace.Call(c.p, d.ID, args, fuel)
	_, steps, _ := eval.Call(c.p, d.ID, args, fuel)
	v2, tr2, code2 := trace.Call(q, d.ID, args, fuel)
	_, steps2, _ := eval.Call(q, d.ID, args, fuel)
	is := equal(v, v2) && code == code2 && steps == steps2
	switch asks := trace.Asks(tr, changed); {
	case !asks && (!is || !same(tr, tr2)):
		t.Fatalf("P12.5: the call of %v for %+v in %+v is %+v after %d steps (error %d) and asks %v; in %+v, %+v after %d steps (error %d), %v", d.ID, args, c.p, v, steps, code, tr, q, v2, steps2, code2, tr2)
	case asks && !is:
		return "asked, another value"
	case asks && !same(tr, tr2):
		return "asked, another trace"
	case asks:
		return "asked, the same"
	case code != api.OK:
		return "not asked with an error"
	}
	return "not asked"
}
