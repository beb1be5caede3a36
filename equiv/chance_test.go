package equiv_test

import (
	"math/rand"
	"slices"
	"strconv"
	"testing"

	"splicery/api"
	"splicery/check"
	"splicery/domain"
	"splicery/equiv"
	"splicery/normal"
	"splicery/value"
)

// bound is a name that stands for a value of a type.
type bound struct {
	id api.ID
	n  int
	t  api.Type
}

// chance makes sound programs of chance, and expressions that have a type.
type chance struct {
	*rand.Rand
	p       api.Prog
	data    []api.Def // the definitions that are types
	calls   []api.Def // those that nodes may call: they stand in front of the one that is being made
	last    int       // the index of the last ID
	sharing bool      // whether nodes may have IDs that others have
	hiding  bool      // whether nodes that bind often have the ID of one around them, or of a slot
}

// nextAround returns the ID of a node that may bind names, where l is bound.
func (c *chance) nextAround(l []bound) api.ID {
	if c.hiding && len(l) > 0 && c.Intn(2) == 0 {
		return pick(c, l...).id
	}
	return c.next()
}

// pick returns an element of a list.
func pick[T any](c *chance, l ...T) T { return l[c.Intn(len(l))] }

// fresh returns an ID that nothing has.
func (c *chance) fresh() api.ID {
	c.last++
	return id(c.last)
}

// next returns the ID of a node.
func (c *chance) next() api.ID {
	if c.sharing && c.Intn(4) == 0 {
		return id(1 + c.Intn(c.last))
	}
	return c.fresh()
}

func newChance(t *testing.T, seed int) *chance {
	t.Helper()
	c := &chance{Rand: rand.New(rand.NewSource(int64(seed)))}
	c.types()
	c.sharing, c.hiding = seed%4 == 1, seed%4 == 3
	for range 3 + c.Intn(4) {
		c.define(pick(c, api.KFun, api.KFun, api.KFun, api.KOn, api.KTest, api.KConv))
	}
	if l := check.All(c.p); len(l) > 0 {
		t.Fatalf("the program of %d is not sound: %+v of %+v", seed, l, c.p)
	}
	return c
}

// add adds a definition to the program.
func (c *chance) add(d api.Def) {
	c.p.Defs = append(c.p.Defs, d)
	if d.Kind <= api.KCase {
		c.data = append(c.data, d)
	}
}

// start returns a definition with slots.
func (c *chance) start(kind int, l ...api.Type) api.Def {
	d := api.Def{ID: c.fresh(), Kind: kind, Mod: id(0), Name: "d" + strconv.Itoa(len(c.p.Defs)), Place: len(c.p.Defs)}
	for i, t := range l {
		d.Slots = append(d.Slots, api.Slot{ID: c.fresh(), Name: string(rune('a' + i)), Type: t, Place: i})
	}
	return d
}

// some returns up to three types, and at least a number of them.
func (c *chance) some(least int) []api.Type {
	var l []api.Type
	for range least + c.Intn(4-least) {
		l = append(l, c.typeOf(2))
	}
	return l
}

// types makes definitions that are types. Among them are a state, its events and what a handler makes of them.
func (c *chance) types() {
	for range 1 + c.Intn(3) {
		c.add(c.start(pick(c, api.KRec, api.KCase), c.some(1)...))
	}
	state := c.typeOf(1)
	c.add(c.start(api.KCase, append([]api.Type{whole}, c.some(0)...)...))
	c.add(c.start(api.KRec, state, listOf(whole), whole))
}

// define makes a definition with a body.
func (c *chance) define(kind int) {
	d := c.start(kind, c.some(0)...)
	d.Result = c.typeOf(2)
	switch kind {
	case api.KConv:
		d = c.start(kind, c.typeOf(2))
		d.Result = c.typeOf(2)
	case api.KOn:
		result := c.data[len(c.data)-1]
		d = c.start(kind, result.Slots[0].Type, api.Type{Kind: api.TDef, Def: c.data[len(c.data)-2].ID})
		d.Result = api.Type{Kind: api.TDef, Def: result.ID}
	}
	var l []bound
	for i := range d.Slots {
		d.Slots[i].Most = pick(c, 0, 0, 1, 1, 1, 2, 3)
		l = append(l, bound{d.Slots[i].ID, 0, d.Slots[i].Type})
	}
	d.Body = c.expr(d.Result, l, 1+c.Intn(5))
	c.add(d)
	if kind == api.KFun || kind == api.KConv {
		c.calls = append(c.calls, d)
	}
}

// typeOf returns a type of the definitions that are there.
func (c *chance) typeOf(depth int) api.Type {
	switch c.Intn(6) {
	case 0:
		return truth
	case 1, 2:
		if depth > 0 {
			return listOf(c.typeOf(depth - 1))
		}
	case 3, 4:
		if len(c.data) > 0 {
			return api.Type{Kind: api.TDef, Def: pick(c, c.data...).ID}
		}
	}
	return whole
}

// number returns a number of the language.
func (c *chance) number() int {
	if c.Intn(2) == 0 {
		return c.Intn(2)
	}
	n := pick(c, 0, 1, 2, 3, 7, 1+c.Intn(1000), api.MaxInt/2, api.MaxInt-1, api.MaxInt)
	return pick(c, n, -n)
}

// variables returns the names that have a type, where l is bound.
func variables(l []bound, t api.Type) []bound {
	var some []bound
	for i, x := range l {
		hidden := slices.ContainsFunc(l[i+1:], func(y bound) bool { return x.id == y.id && x.n == y.n })
		if !hidden && value.SameType(x.t, t) {
			some = append(some, x)
		}
	}
	return some
}

// expr returns an expression with a type, where l is bound.
func (c *chance) expr(t api.Type, l []bound, depth int) api.Expr {
	if some := variables(l, t); len(some) > 0 && (depth <= 0 || c.Intn(4) == 0) {
		x := pick(c, some...)
		return api.Expr{ID: c.next(), Kind: api.NVar, Ref: x.id, N: x.n}
	}
	if depth > 0 {
		for range 2 {
			if e, ok := c.general(t, l, depth-1); ok {
				return e
			}
		}
	}
	return c.own(t, l, depth-1)
}

// general returns an expression of a kind that may have any type; false, if there is none.
func (c *chance) general(t api.Type, l []bound, depth int) (api.Expr, bool) {
	e := api.Expr{ID: c.nextAround(l), Kind: pick(c, api.NCall, api.NCall, api.NIf, api.NLet, api.NField, api.NMatch, api.NFold)}
	kid := func(t api.Type, more ...bound) {
		e.Kids = append(e.Kids, c.expr(t, slices.Concat(l, more), depth))
	}
	switch e.Kind {
	case api.NIf:
		kid(truth)
		kid(t)
		if c.Intn(3) == 0 {
			e.Kids = append(e.Kids, c.twin(e.Kids[1]))
			return e, true
		}
		kid(t)
		return e, true
	case api.NLet:
		x := c.typeOf(2)
		kid(x)
		kid(t, bound{e.ID, 0, x})
		e.Names = letters(1)
		return e, true
	case api.NFold:
		x := c.typeOf(1)
		kid(listOf(x))
		kid(t)
		kid(t, bound{e.ID, 0, x}, bound{e.ID, 1, t})
		e.Names = letters(2)
		return e, true
	}
	d := pick(c, append(c.data, c.calls...)...)
	e.Ref = d.ID
	self := api.Type{Kind: api.TDef, Def: d.ID}
	switch place := c.Intn(4); {
	case e.Kind == api.NCall && d.Kind > api.KCase && value.SameType(d.Result, t):
		for _, s := range d.Slots {
			kid(s.Type)
		}
	case e.Kind == api.NField && d.Kind == api.KRec && place < len(d.Slots) && value.SameType(d.Slots[place].Type, t):
		e.N = place
		kid(self)
	case e.Kind == api.NMatch && d.Kind == api.KCase:
		kid(self)
		for i, s := range d.Slots {
			kid(t, bound{e.ID, i, s.Type})
		}
		e.Names = letters(len(d.Slots))
	default:
		return e, false
	}
	return e, true
}

// twin returns a copy of an expression, whose nodes have other IDs. Sometimes something in it is another number.
func (c *chance) twin(e api.Expr) api.Expr {
	var copied func(e api.Expr, l []bound) api.Expr
	copied = func(e api.Expr, l []bound) api.Expr {
		old := e.ID
		e.ID = c.fresh()
		if e.Kind == api.NVar {
			for _, b := range l {
				if b.id == e.Ref && b.n == e.N {
					e.Ref = b.t.Def
					break
				}
			}
		}
		if e.Kind == api.NInt && c.Intn(20) == 0 {
			e.N = c.number()
		}
		kids := e.Kids
		e.Kids = nil
		for i, kid := range kids {
			inner := l
			for _, n := range bindsIn(e, i) {
				inner = append([]bound{{old, n, api.Type{Def: e.ID}}}, inner...)
			}
			e.Kids = append(e.Kids, copied(kid, inner))
		}
		return e
	}
	return copied(e, nil)
}

// own returns an expression of a kind that has types of this kind only.
func (c *chance) own(t api.Type, l []bound, depth int) api.Expr {
	e := api.Expr{ID: c.next(), Kind: api.NOp}
	kids := func(all ...api.Type) {
		for i, x := range all {
			if i == 1 && value.SameType(x, all[0]) && c.Intn(8) == 0 {
				e.Kids = append(e.Kids, c.twin(e.Kids[0]))
				continue
			}
			e.Kids = append(e.Kids, c.expr(x, l, depth))
		}
	}
	switch t.Kind {
	case api.TInt:
		if depth <= 0 {
			return api.Expr{ID: e.ID, Kind: api.NInt, N: c.number()}
		}
		if e.N = pick(c, api.Add, api.Sub, api.Mul, api.Div, api.Rem, api.Len); e.N == api.Len {
			kids(listOf(c.typeOf(1)))
		} else {
			kids(whole, whole)
		}
	case api.TBool:
		if depth <= 0 {
			return api.Expr{ID: e.ID, Kind: api.NBool, N: c.Intn(2)}
		}
		x := c.typeOf(2)
		e.N = pick(c, api.Less, api.Same, api.Same, api.And, api.Or, api.Not, api.Not)
		kids(map[int][]api.Type{api.Less: {whole, whole}, api.Same: {x, x}, api.And: {truth, truth}, api.Or: {truth, truth}, api.Not: {truth}}[e.N]...)
	case api.TList:
		if e.N = api.Join; depth > 0 && c.Intn(2) == 0 {
			kids(t, t)
			break
		}
		e.Kind, e.N, e.Type = api.NList, 0, t.Kids[0]
		kids(slices.Repeat([]api.Type{t.Kids[0]}, c.Intn(max(depth, 1)+1))...)
	case api.TDef:
		d := c.data[slices.IndexFunc(c.data, func(d api.Def) bool { return d.ID == t.Def })]
		e.Ref = d.ID
		if d.Kind == api.KCase {
			e.Kind, e.N = api.NCase, c.Intn(len(d.Slots))
			kids(d.Slots[e.N].Type)
			break
		}
		e.Kind = api.NRec
		for _, s := range d.Slots {
			kids(s.Type)
		}
	}
	return e
}

// value returns a value of a type, of not much more than a number of nodes, if it can be.
func (c *chance) value(t api.Type, nodes int) api.Value {
	switch t.Kind {
	case api.TInt:
		return api.Value{N: c.number()}
	case api.TBool:
		return api.Value{Kind: api.VBool, N: c.Intn(2)}
	case api.TList:
		v := api.Value{Kind: api.VList}
		for n := c.Intn(max(nodes, 1)); n > 0; {
			kid := c.value(t.Kids[0], n-1)
			n -= value.Size(kid)
			v.Kids = append(v.Kids, kid)
		}
		return v
	}
	d := c.data[slices.IndexFunc(c.data, func(d api.Def) bool { return d.ID == t.Def })]
	if d.Kind == api.KCase {
		n := c.Intn(len(d.Slots))
		return api.Value{Kind: api.VCase, N: n, Kids: []api.Value{c.value(d.Slots[n].Type, nodes-1)}}
	}
	v := api.Value{Kind: api.VRec}
	for _, s := range d.Slots {
		v.Kids = append(v.Kids, c.value(s.Type, nodes/len(d.Slots)))
	}
	return v
}

// args returns values for the slots of a definition.
func (c *chance) args(d api.Def) []api.Value {
	for {
		var l []api.Value
		nodes := pick(c, 2, 8, 8, 30, 250)
		for _, s := range d.Slots {
			l = append(l, c.value(s.Type, nodes))
		}
		if !slices.ContainsFunc(l, func(v api.Value) bool { return value.Size(v) > 256 }) {
			return l
		}
	}
}

// renamed returns a copy of a program in which all names, modules, places and layouts are others.
func (c *chance) renamed(p api.Prog) api.Prog {
	q := api.Prog{Mods: []api.Mod{{ID: c.next(), Name: "x", Uses: []api.ID{c.next()}, Defs: []api.ID{c.next()}}}}
	var rename func(e api.Expr) api.Expr
	rename = func(e api.Expr) api.Expr {
		e.Names = pick(c, nil, []string{"x"}, []string{"", "if", "y"})
		var kids []api.Expr
		for _, kid := range e.Kids {
			kids = append(kids, rename(kid))
		}
		e.Kids = kids
		return e
	}
	for _, d := range p.Defs {
		d.Name, d.Mod, d.Place, d.Layout = pick(c, "", "a", "if"), c.next(), c.Intn(9)-4, pick(c, nil, []string{"", " "})
		d.Body = rename(d.Body)
		d.Slots = slices.Clone(d.Slots)
		for i := range d.Slots {
			d.Slots[i].Name, d.Slots[i].Place = pick(c, "", "a", "if"), c.Intn(9)-4
		}
		q.Defs = append(q.Defs, d)
	}
	return q
}

// all returns the nodes of an expression.
func all(e api.Expr) []api.Expr {
	l := []api.Expr{e}
	for _, kid := range e.Kids {
		l = append(l, all(kid)...)
	}
	return l
}

// enough checks that there are so many of some things.
func enough(t *testing.T, counts map[string]int, least int, what ...string) {
	t.Helper()
	for _, x := range what {
		if counts[x] < least {
			t.Errorf("there are only %d of: %s", counts[x], x)
		}
	}
}

// normalized returns a program with normal forms in the place of the bodies.
func normalized(p api.Prog) api.Prog {
	p.Defs = slices.Clone(p.Defs)
	for i := range p.Defs {
		p.Defs[i].Body = normal.Expr(p, p.Defs[i].Body)
	}
	return p
}

// mapped returns a program in which other IDs stand for those of definitions, slots and nodes.
func mapped(p api.Prog, other func(id api.ID) api.ID) api.Prog {
	var ofType func(t api.Type) api.Type
	ofType = func(t api.Type) api.Type {
		kids := t.Kids
		t.Def, t.Kids = other(t.Def), nil
		for _, kid := range kids {
			t.Kids = append(t.Kids, ofType(kid))
		}
		return t
	}
	var ofExpr func(e api.Expr) api.Expr
	ofExpr = func(e api.Expr) api.Expr {
		kids := e.Kids
		e.ID, e.Ref, e.Type, e.Kids = other(e.ID), other(e.Ref), ofType(e.Type), nil
		for _, kid := range kids {
			e.Kids = append(e.Kids, ofExpr(kid))
		}
		return e
	}
	q := api.Prog{}
	for _, d := range p.Defs {
		d.ID, d.Result, d.Body, d.Slots = other(d.ID), ofType(d.Result), ofExpr(d.Body), slices.Clone(d.Slots)
		for i := range d.Slots {
			d.Slots[i].ID, d.Slots[i].Type = other(d.Slots[i].ID), ofType(d.Slots[i].Type)
		}
		q.Defs = append(q.Defs, d)
	}
	return q
}

// otherIDs returns the program with other IDs, and again with others for slots and nodes, which have the same order.
func otherIDs(p api.Prog) (api.Prog, api.Prog) {
	isDef := map[api.ID]bool{{}: true} // no ID stays none
	for _, d := range p.Defs {
		isDef[d.ID] = true
	}
	double := func(id api.ID, more int) api.ID { return api.ID{Shop: id.Shop, Seq: id.Seq, Index: 2*id.Index + more} }
	return mapped(p, func(id api.ID) api.ID { return double(id, 0) }), mapped(p, func(id api.ID) api.ID {
		if isDef[id] {
			return double(id, 0)
		}
		return double(id, 1)
	})
}

// change returns a program with something changed in a definition, which is sound.
func (c *chance) change(p api.Prog, i int, body func(e api.Expr) api.Expr) api.Prog {
	for range 20 {
		q := p
		q.Defs = slices.Clone(p.Defs)
		d := &q.Defs[i]
		d.Slots = slices.Clone(d.Slots)
		if hasBody(*d) {
			n := c.Intn(len(all(d.Body)))
			d.Body = inside(d.Body, &n, body)
		} else if c.Intn(3) == 0 {
			d.Slots = append(d.Slots, api.Slot{ID: c.fresh(), Type: pick(c, whole, truth)})
		} else {
			d.Slots[c.Intn(len(d.Slots))].Type = pick(c, whole, truth, listOf(whole))
		}
		if len(check.All(q)) == 0 {
			return q
		}
	}
	return p
}

// inside returns an expression, whose node n in preorder is another one.
func inside(e api.Expr, n *int, change func(e api.Expr) api.Expr) api.Expr {
	if *n--; *n == -1 {
		return change(e)
	}
	e.Kids = slices.Clone(e.Kids)
	for i := range e.Kids {
		e.Kids[i] = inside(e.Kids[i], n, change)
	}
	return e
}

// otherwise returns an expression that has the same values, as far as fuel permits, and the type of this one if this type is not another one than it seems.
func (c *chance) otherwise(e api.Expr) api.Expr {
	switch c.Intn(9) {
	case 0:
		return cond(is(1), e, c.twin(e))
	case 1:
		return cond(op(api.Less, num(c.Intn(9)), num(4)), e, e)
	case 2:
		return letOf(c.fresh(), num(3), e)
	case 3:
		x := c.fresh()
		return letOf(x, e, api.Expr{Kind: api.NVar, Ref: x})
	case 4:
		return op(api.Sub, add(e, num(1)), num(1))
	case 5:
		return add(num(0), e)
	case 6:
		return not(not(e))
	case 7:
		return not(op(api.Same, e, is(0)))
	}
	if len(e.Kids) == 2 && e.Kind == api.NOp {
		e.Kids = []api.Expr{e.Kids[1], e.Kids[0]} // which is the same for some operations
	}
	return e
}

func letOf(id api.ID, kids ...api.Expr) api.Expr {
	return api.Expr{ID: id, Kind: api.NLet, Kids: kids, Names: letters(1)}
}

// another returns an expression that may have other values.
func (c *chance) another(e api.Expr) api.Expr {
	switch {
	case e.Kind == api.NInt:
		e.N = c.Intn(7) - 3
	case e.Kind == api.NBool:
		e.N = 1 - e.N
	case e.Kind == api.NOp && len(e.Kids) == 2 && e.N <= api.Rem:
		e.N = c.Intn(api.Less)
	case e.Kind == api.NOp && len(e.Kids) == 2 && (e.N == api.And || e.N == api.Or):
		e.N = api.And + api.Or - e.N
	case e.Kind == api.NIf:
		e.Kids = []api.Expr{e.Kids[0], e.Kids[2], e.Kids[1]}
	case len(e.Kids) > 0 && c.Intn(2) == 0:
		return pick(c, e.Kids...)
	default:
		x := c.number()
		return pick(c, num(x), cond(op(api.Less, e, num(x)), e, num(c.Intn(3))), add(e, num(c.Intn(2))), not(e))
	}
	return e
}

// ways are those in which a second definition comes about.
var ways = []string{"itself", "other names", "normal forms", "other IDs", "otherwise", "otherwise further on", "another", "another further on", "another type", "sometimes", "sometimes", "sometimes", "a new one", "any other"}

// two returns two definitions to be compared, and how the second one came about.
func (c *chance) two() (two, string) {
	var some []int
	for i, d := range c.p.Defs {
		if hasBody(d) {
			some = append(some, i)
		}
	}
	i := pick(c, some...)
	x := two{c.p, c.p.Defs[i].ID, c.p, c.p.Defs[i].ID, pick(c, 3, 30, 300, 3000, 3000, 3000)}
	how := pick(c, ways...)
	switch how {
	case "other names":
		x.q = c.renamed(x.q)
	case "normal forms":
		x.q = normalized(x.q)
	case "other IDs":
		x.p, x.q = otherIDs(x.p)
		x.a, x.b = x.p.Defs[i].ID, x.q.Defs[i].ID
	case "otherwise":
		x.q = c.change(x.q, i, c.otherwise)
	case "otherwise further on":
		for range 4 {
			x.q = c.change(x.q, pick(c, some...), c.otherwise)
		}
	case "another":
		x.q = c.change(x.q, i, c.another)
	case "another further on":
		for range 2 {
			x.q = c.change(x.q, pick(c, some...), c.another)
		}
	case "another type":
		x.q = c.change(x.q, c.Intn(some[0]), nil)
	case "sometimes":
		x.q.Defs = slices.Clone(x.q.Defs)
		d := &x.q.Defs[i]
		var l []bound
		for _, s := range d.Slots {
			l = append(l, bound{s.ID, 0, s.Type})
		}
		d.Body = cond(c.condition(*d, l), d.Body, c.expr(d.Result, l, 1))
	case "a new one":
		d := c.p.Defs[i]
		d.ID, d.Slots, d.Kind = c.fresh(), slices.Clone(d.Slots), api.KFun
		var l []bound
		for i := range d.Slots {
			d.Slots[i].ID = c.fresh()
			l = append(l, bound{d.Slots[i].ID, 0, d.Slots[i].Type})
		}
		d.Body = c.expr(d.Result, l, c.Intn(3))
		x.q.Defs = append(slices.Clone(x.q.Defs), d)
		x.b = d.ID
	case "any other":
		x.b = pick(c, c.p.Defs...).ID
	}
	if c.Intn(2) == 0 {
		x.p, x.a, x.q, x.b = x.q, x.b, x.p, x.a
	}
	return x, how
}

// condition returns a condition that is true for some inputs of a definition.
func (c *chance) condition(d api.Def, l []bound) api.Expr {
	inputs, _ := domain.Inputs(c.p, d.Slots)
	if len(inputs) == 0 || len(l) == 0 {
		return c.expr(truth, l, 2)
	}
	i := c.Intn(len(l))
	equal := op(api.Same, api.Expr{Kind: api.NVar, Ref: l[i].id}, literalByRule(c.p, l[i].t, pick(c, inputs...)[i]))
	return pick(c, equal, not(equal))
}

// few reports whether a definition has not many inputs, or none because there would be too many.
func few(x two) bool {
	d, _ := first(x.p, x.a)
	n, _ := domain.Count(x.p, d.Slots)
	return n <= 150
}

// pairsOfChance calls a function with many twos whose definitions have not too many inputs.
func pairsOfChance(t *testing.T, from, seeds int, call func(c *chance, x two, how string)) {
	t.Helper()
	for seed := range seeds {
		c := newChance(t, from+seed)
		for range 3 {
			if x, how := c.two(); few(x) {
				call(c, x.sound(t), how)
			}
		}
	}
}

// TestDifferOfChance compares what Differ returns with the words of the chapter.
func TestDifferOfChance(t *testing.T) {
	t.Parallel()
	counts := map[string]int{}
	pairsOfChance(t, 0, 900, func(c *chance, x two, how string) {
		l, proof, e := x.differ()
		want, code := errorByRule(x)
		if e != code || !sameValues(l, want) {
			t.Fatalf("P15.1: of %+v Differ returns %+v and the error %d, by the rule %+v and the error %d", x, l, e, want, code)
		}
		if e != api.OK && !sameProof(proof, equiv.Proof{}) {
			t.Fatalf("P15.1: of %+v Differ returns the error %d with the proof %+v", x, e, proof)
		}
		counts["error "+strconv.Itoa(int(e))]++
		if e == api.ErrNone || e == api.ErrType {
			return
		}
		inputs, _ := inputsByRule(x)
		switch e {
		case api.OK:
			if !rightByRule(x, proof, nil) || x.check(proof) != api.OK {
				t.Fatalf("P15.2: of %+v Differ returns the proof %+v, which is not right", x, proof)
			}
			counts["by forms "+strconv.FormatBool(proof.Normal)]++
			counts["equal: "+how]++
		case api.ErrDiffer:
			if counts["differ: "+how]++; !sameValues(l, inputs[0]) {
				counts["differ, but not on the first input"]++
			}
		}
		for _, in := range inputs {
			if got := x.witness(in); got != differsByRule(x, in) || got && (e != api.ErrDiffer || domain.Before(in, l)) {
				t.Fatalf("P15.5: of %+v Differ returns %+v and the error %d, and that %+v is a witness is %v", x, l, e, in, got)
			}
		}
		d, _ := first(x.p, x.a)
		if how != "other IDs" && len(d.Slots) > 0 {
			args := c.args(d) // of which some are not in the domain
			got := x.witness(args)
			if got != differsByRule(x, args) {
				t.Fatalf("P15.4: that %+v is a witness of %+v is %v", args, x, got)
			}
			counts["some input is a witness "+strconv.FormatBool(got)]++
		}
	})
	enough(t, counts, 30, "error "+strconv.Itoa(int(api.ErrNone)), "error "+strconv.Itoa(int(api.ErrType)), "error "+strconv.Itoa(int(api.ErrLimit)), "error 0", "error "+strconv.Itoa(int(api.ErrDiffer)))
	enough(t, counts, 50, "differ, but not on the first input")
	enough(t, counts, 100, "by forms true", "by forms false", "some input is a witness true", "some input is a witness false")
	for _, how := range ways {
		enough(t, counts, 10, "equal: "+how)
	}
	enough(t, counts, 10, "differ: another", "differ: another further on", "differ: sometimes", "differ: a new one")
	for _, how := range []string{"itself", "other names", "normal forms", "other IDs"} {
		if n := counts["differ: "+how]; n > 0 {
			t.Errorf("P15.7: %d definitions differ from what they are by: %s", n, how)
		}
	}
}

// casesByRule returns a proof by cases, in which some proofs are those by forms.
func (c *chance) casesByRule(x two, l []api.Value, forms int) equiv.Proof {
	d, _ := first(x.p, x.a)
	if c.Intn(100) < forms {
		return byForms
	}
	if len(l) == len(d.Slots) {
		if v, _, ok := callsByRule(x, l); ok {
			return returns(v)
		}
		return equiv.Proof{}
	}
	proof := equiv.Proof{Slot: len(l)}
	values, _ := domain.Values(x.p, d.Slots[len(l)].Type, d.Slots[len(l)].Most)
	for _, v := range values {
		proof.Kids = append(proof.Kids, c.casesByRule(x, append(slices.Clone(l), v), forms))
	}
	return proof
}

// spoilt returns a proof in which something is another one than before.
func (c *chance) spoilt(x equiv.Proof) equiv.Proof {
	x.Kids = slices.Clone(x.Kids)
	if n := len(x.Kids); n > 0 && c.Intn(4) > 0 {
		x.Kids[c.Intn(n)] = c.spoilt(x.Kids[c.Intn(n)])
		return x
	}
	switch c.Intn(8) {
	case 0:
		x.Normal = !x.Normal
	case 1:
		x.Slot += c.Intn(3) - 1
	case 2:
		x.Kids = append(x.Kids, byForms)
	case 3:
		x.Kids = x.Kids[:len(x.Kids)/2]
	case 4:
		slices.Reverse(x.Kids)
	case 5:
		x.Result = append(x.Result, number(0))
	case 6:
		x.Result = nil
	case 7:
		x.Result = []api.Value{pick(c, number(0), number(1), fact(0), several())}
	}
	return x
}

// TestCheckOfChance compares what Check returns for proofs of chance with the words of the chapter.
func TestCheckOfChance(t *testing.T) {
	t.Parallel()
	counts := map[string]int{}
	pairsOfChance(t, 100000, 250, func(c *chance, x two, how string) {
		if e := comparableByRule(x); e != api.OK {
			for _, proof := range []equiv.Proof{byForms, c.spoilt(byForms)} {
				if got := x.check(proof); got != e {
					t.Fatalf("P15.3: of %+v Check returns the error %d, by the rule %d", x, got, e)
				}
			}
			return
		}
		inputs, e := inputsByRule(x)
		if e != api.OK {
			return
		}
		for range 6 {
			proof := c.casesByRule(x, nil, pick(c, 0, 10, 40))
			if c.Intn(2) == 0 {
				proof = c.spoilt(proof)
			}
			want := checkByRule(x, proof)
			if got := x.check(proof); got != want {
				t.Fatalf("P15.3: of %+v Check of %+v returns the error %d, by the rule %d", x, proof, got, want)
			}
			counts["error "+strconv.Itoa(int(want))+", by forms "+strconv.FormatBool(proof.Normal)]++
			if want != api.OK {
				continue
			}
			if i := slices.IndexFunc(inputs, x.witness); i >= 0 {
				t.Fatalf("P15.6: of %+v Check accepts %+v, although %+v is a witness", x, proof, inputs[i])
			}
			if slices.ContainsFunc(proof.Kids, func(kid equiv.Proof) bool { return kid.Normal }) {
				counts["right by cases and by forms"]++
			}
		}
	})
	for _, code := range []string{"error 0", "error " + strconv.Itoa(int(api.ErrCheck))} {
		enough(t, counts, 200, code+", by forms false", code+", by forms true")
	}
	enough(t, counts, 200, "right by cases and by forms")
}

// TestFormsOfChance compares definitions with themselves, by other names and with normal forms.
func TestFormsOfChance(t *testing.T) {
	t.Parallel()
	counts := map[string]int{}
	for seed := range 200 {
		c := newChance(t, 200000+seed)
		p, q := otherIDs(c.p)
		for i, d := range c.p.Defs {
			if !hasBody(d) {
				continue
			}
			_, code := domain.Count(c.p, d.Slots)
			if counts["error "+strconv.Itoa(int(code))]++; code == api.OK {
				counts["kind "+strconv.Itoa(d.Kind)]++
			}
			fuel := c.Intn(2000)
			for what, x := range map[string]two{
				"itself": {c.p, d.ID, c.p, d.ID, fuel}, "other names": {c.p, d.ID, c.renamed(c.p), d.ID, fuel}, "normal forms": {c.p, d.ID, normalized(c.p), d.ID, fuel},
				"names and normal forms": {c.renamed(c.p), d.ID, normalized(c.renamed(c.p)), d.ID, fuel}, "other IDs in the same order": {p, p.Defs[i].ID, q, q.Defs[i].ID, fuel},
			} {
				for _, x := range []two{x, x.back()} {
					if l, _, e := x.differ(); e != code || len(l) > 0 {
						t.Fatalf("P15.7: of %+v and %s Differ returns %+v and the error %d", x, what, l, e)
					}
					if e := x.check(byForms); e != code {
						t.Fatalf("P15.7: of %+v and %s Check of normal forms returns the error %d", x, what, e)
					}
				}
			}
		}
	}
	enough(t, counts, 100, "error 0", "error "+strconv.Itoa(int(api.ErrLimit)), "kind 2", "kind 3", "kind 4", "kind 5")
}

// TestSidesOfChance compares definitions with the same bounds in both orders.
func TestSidesOfChance(t *testing.T) {
	t.Parallel()
	counts := map[string]int{}
	pairsOfChance(t, 300000, 250, func(c *chance, x two, how string) {
		a, _ := first(x.p, x.a)
		x.q.Defs = slices.Clone(x.q.Defs)
		b := &x.q.Defs[slices.IndexFunc(x.q.Defs, func(d api.Def) bool { return d.ID == x.b })]
		b.Slots = slices.Clone(b.Slots)
		for i := range min(len(a.Slots), len(b.Slots)) {
			b.Slots[i].Most = a.Slots[i].Most
		}
		l, proof, e := x.differ()
		m, other, f := x.back().differ()
		if len(a.Slots) == len(b.Slots) && (e != f || !sameValues(l, m)) {
			t.Fatalf("P15.8: of %+v Differ returns %+v and the error %d, in the opposite order %+v and the error %d", x, l, e, m, f)
		}
		counts["error "+strconv.Itoa(int(e))]++
		if e == api.OK && (x.back().check(proof) != api.OK || x.check(other) != api.OK) {
			t.Fatalf("P15.8: of %+v the proof %+v is not right in the opposite order", x, proof)
		}
		if _, code := domain.Count(x.p, a.Slots); e == api.ErrNone || e == api.ErrType || code != api.OK {
			return
		}
		for range 3 {
			proof := c.casesByRule(x, nil, 30)
			if c.Intn(2) == 0 {
				proof = c.spoilt(proof)
			}
			if e, f := x.check(proof), x.back().check(proof); e != f {
				t.Fatalf("P15.8: of %+v Check of %+v returns the error %d, in the opposite order %d", x, proof, e, f)
			}
		}
	})
	enough(t, counts, 10, "error 0", "error "+strconv.Itoa(int(api.ErrNone)), "error "+strconv.Itoa(int(api.ErrType)), "error "+strconv.Itoa(int(api.ErrLimit)), "error "+strconv.Itoa(int(api.ErrDiffer)))
}
