package normal_test

import (
	"math/rand"
	"slices"
	"strconv"
	"testing"

	"splicery/api"
	"splicery/check"
	"splicery/eval"
	"splicery/normal"
	"splicery/value"
)

// bound is a name that stands for a value of a type.
type bound struct {
	id api.ID
	n  int
	t  api.Type
}

// chance makes sound programs of chance, and expressions that have a type.
type chance struct {
	*rand.Rand
	p       api.Prog
	data    []api.Def // the definitions that are types
	calls   []api.Def // those that nodes may call: they stand in front of the one that is being made
	last    int       // the index of the last ID
	sharing bool      // whether nodes may have IDs that others have
	hiding  bool      // whether nodes that bind often have the ID of one around them, or of a slot
}

// nextAround returns the ID of a node that may bind names, where l is bound.
func (c *chance) nextAround(l []bound) api.ID {
	if c.hiding && len(l) > 0 && c.Intn(2) == 0 {
		return pick(c, l...).id
	}
	return c.next()
}

// pick returns an element of a list.
func pick[T any](c *chance, l ...T) T { return l[c.Intn(len(l))] }

// fresh returns an ID that nothing has.
func (c *chance) fresh() api.ID {
	c.last++
	return id(c.last)
}

// next returns the ID of a node.
func (c *chance) next() api.ID {
	if c.sharing && c.Intn(4) == 0 {
		return id(1 + c.Intn(c.last))
	}
	return c.fresh()
}

func newChance(t *testing.T, seed int) *chance {
	t.Helper()
	c := &chance{Rand: rand.New(rand.NewSource(int64(seed)))}
	c.types()
	c.sharing, c.hiding = seed%4 == 1, seed%4 == 3
	for range 3 + c.Intn(4) {
		c.define(pick(c, api.KFun, api.KFun, api.KFun, api.KOn, api.KTest, api.KConv))
	}
	if l := check.All(c.p); len(l) > 0 {
		t.Fatalf("the program of %d is not sound: %+v of %+v", seed, l, c.p)
	}
	return c
}

// add adds a definition to the program.
func (c *chance) add(d api.Def) {
	c.p.Defs = append(c.p.Defs, d)
	if d.Kind <= api.KCase {
		c.data = append(c.data, d)
	}
}

// start returns a definition with slots.
func (c *chance) start(kind int, l ...api.Type) api.Def {
	d := api.Def{ID: c.fresh(), Kind: kind, Mod: id(0), Name: "d" + strconv.Itoa(len(c.p.Defs)), Place: len(c.p.Defs)}
	for i, t := range l {
		d.Slots = append(d.Slots, api.Slot{ID: c.fresh(), Name: string(rune('a' + i)), Type: t, Place: i})
	}
	return d
}

// some returns up to three types, and at least a number of them.
func (c *chance) some(least int) []api.Type {
	var l []api.Type
	for range least + c.Intn(4-least) {
		l = append(l, c.typeOf(2))
	}
	return l
}

// types makes definitions that are types. Among them are a state, its events and what a handler makes of them.
func (c *chance) types() {
	for range 1 + c.Intn(3) {
		c.add(c.start(pick(c, api.KRec, api.KCase), c.some(1)...))
	}
	state := c.typeOf(1)
	c.add(c.start(api.KCase, append([]api.Type{whole}, c.some(0)...)...))
	c.add(c.start(api.KRec, state, listOf(whole), whole))
}

// define makes a definition with a body.
func (c *chance) define(kind int) {
	d := c.start(kind, c.some(0)...)
	d.Result = c.typeOf(2)
	switch kind {
	case api.KConv:
		d = c.start(kind, c.typeOf(2))
		d.Result = c.typeOf(2)
	case api.KOn:
		result := c.data[len(c.data)-1]
		d = c.start(kind, result.Slots[0].Type, api.Type{Kind: api.TDef, Def: c.data[len(c.data)-2].ID})
		d.Result = api.Type{Kind: api.TDef, Def: result.ID}
	}
	var l []bound
	for i := range d.Slots {
		if kind == api.KTest {
			d.Slots[i].Most = c.Intn(65)
		}
		l = append(l, bound{d.Slots[i].ID, 0, d.Slots[i].Type})
	}
	d.Body = c.expr(d.Result, l, 1+c.Intn(6))
	c.add(d)
	if kind == api.KFun || kind == api.KConv {
		c.calls = append(c.calls, d)
	}
}

// typeOf returns a type of the definitions that are there.
func (c *chance) typeOf(depth int) api.Type {
	switch c.Intn(6) {
	case 0:
		return truth
	case 1, 2:
		if depth > 0 {
			return listOf(c.typeOf(depth - 1))
		}
	case 3, 4:
		if len(c.data) > 0 {
			return api.Type{Kind: api.TDef, Def: pick(c, c.data...).ID}
		}
	}
	return whole
}

// number returns a number of the language.
func (c *chance) number() int {
	if c.Intn(2) == 0 {
		return c.Intn(2)
	}
	n := pick(c, 0, 1, 2, 3, 7, 1+c.Intn(1000), api.MaxInt/2, api.MaxInt-1, api.MaxInt)
	return pick(c, n, -n)
}

// variables returns the names that have a type, where l is bound.
func variables(l []bound, t api.Type) []bound {
	var some []bound
	for i, x := range l {
		hidden := slices.ContainsFunc(l[i+1:], func(y bound) bool { return x.id == y.id && x.n == y.n })
		if !hidden && value.SameType(x.t, t) {
			some = append(some, x)
		}
	}
	return some
}

// expr returns an expression with a type, where l is bound.
func (c *chance) expr(t api.Type, l []bound, depth int) api.Expr {
	if some := variables(l, t); len(some) > 0 && (depth <= 0 || c.Intn(4) == 0) {
		x := pick(c, some...)
		return api.Expr{ID: c.next(), Kind: api.NVar, Ref: x.id, N: x.n}
	}
	if depth > 0 {
		for range 2 {
			if e, ok := c.general(t, l, depth-1); ok {
				return e
			}
		}
	}
	return c.own(t, l, depth-1)
}

// general returns an expression of a kind that may have any type; false, if there is none.
func (c *chance) general(t api.Type, l []bound, depth int) (api.Expr, bool) {
	e := api.Expr{ID: c.nextAround(l), Kind: pick(c, api.NCall, api.NCall, api.NIf, api.NLet, api.NField, api.NMatch, api.NFold)}
	kid := func(t api.Type, more ...bound) {
		e.Kids = append(e.Kids, c.expr(t, slices.Concat(l, more), depth))
	}
	switch e.Kind {
	case api.NIf:
		kid(truth)
		kid(t)
		if c.Intn(3) == 0 {
			e.Kids = append(e.Kids, c.twin(e.Kids[1]))
			return e, true
		}
		kid(t)
		return e, true
	case api.NLet:
		x := c.typeOf(2)
		kid(x)
		kid(t, bound{e.ID, 0, x})
		e.Names = letters(1)
		return e, true
	case api.NFold:
		x := c.typeOf(1)
		kid(listOf(x))
		kid(t)
		kid(t, bound{e.ID, 0, x}, bound{e.ID, 1, t})
		e.Names = letters(2)
		return e, true
	}
	d := pick(c, append(c.data, c.calls...)...)
	e.Ref = d.ID
	self := api.Type{Kind: api.TDef, Def: d.ID}
	switch place := c.Intn(4); {
	case e.Kind == api.NCall && d.Kind > api.KCase && value.SameType(d.Result, t):
		for _, s := range d.Slots {
			kid(s.Type)
		}
	case e.Kind == api.NField && d.Kind == api.KRec && place < len(d.Slots) && value.SameType(d.Slots[place].Type, t):
		e.N = place
		kid(self)
	case e.Kind == api.NMatch && d.Kind == api.KCase:
		kid(self)
		for i, s := range d.Slots {
			kid(t, bound{e.ID, i, s.Type})
		}
		e.Names = letters(len(d.Slots))
	default:
		return e, false
	}
	return e, true
}

// twin returns a copy of an expression, whose nodes have other IDs. Sometimes something in it is another number.
func (c *chance) twin(e api.Expr) api.Expr {
	var copied func(e api.Expr, l []bound) api.Expr
	copied = func(e api.Expr, l []bound) api.Expr {
		old := e.ID
		e.ID = c.fresh()
		if e.Kind == api.NVar {
			for _, b := range l {
				if b.id == e.Ref && b.n == e.N {
					e.Ref = b.t.Def
					break
				}
			}
		}
		if e.Kind == api.NInt && c.Intn(20) == 0 {
			e.N = c.number()
		}
		kids := e.Kids
		e.Kids = nil
		for i, kid := range kids {
			inner := l
			for n := range len(kids) + 1 {
				if bindsIn(e, i, n) {
					inner = append([]bound{{old, n, api.Type{Def: e.ID}}}, inner...)
				}
			}
			e.Kids = append(e.Kids, copied(kid, inner))
		}
		return e
	}
	return copied(e, nil)
}

// own returns an expression of a kind that has types of this kind only.
func (c *chance) own(t api.Type, l []bound, depth int) api.Expr {
	e := api.Expr{ID: c.next(), Kind: api.NOp}
	kids := func(all ...api.Type) {
		for i, x := range all {
			if i == 1 && value.SameType(x, all[0]) && c.Intn(8) == 0 {
				e.Kids = append(e.Kids, c.twin(e.Kids[0]))
				continue
			}
			e.Kids = append(e.Kids, c.expr(x, l, depth))
		}
	}
	switch t.Kind {
	case api.TInt:
		if depth <= 0 {
			return api.Expr{ID: e.ID, Kind: api.NInt, N: c.number()}
		}
		if e.N = pick(c, api.Add, api.Sub, api.Mul, api.Div, api.Rem, api.Len); e.N == api.Len {
			kids(listOf(c.typeOf(1)))
		} else {
			kids(whole, whole)
		}
	case api.TBool:
		if depth <= 0 {
			return api.Expr{ID: e.ID, Kind: api.NBool, N: c.Intn(2)}
		}
		x := c.typeOf(2)
		e.N = pick(c, api.Less, api.Same, api.Same, api.And, api.Or, api.Not, api.Not)
		kids(map[int][]api.Type{api.Less: {whole, whole}, api.Same: {x, x}, api.And: {truth, truth}, api.Or: {truth, truth}, api.Not: {truth}}[e.N]...)
	case api.TList:
		if e.N = api.Join; depth > 0 && c.Intn(2) == 0 {
			kids(t, t)
			break
		}
		e.Kind, e.N, e.Type = api.NList, 0, t.Kids[0]
		kids(slices.Repeat([]api.Type{t.Kids[0]}, c.Intn(max(depth, 1)+1))...)
	case api.TDef:
		d := c.data[slices.IndexFunc(c.data, func(d api.Def) bool { return d.ID == t.Def })]
		e.Ref = d.ID
		if d.Kind == api.KCase {
			e.Kind, e.N = api.NCase, c.Intn(len(d.Slots))
			kids(d.Slots[e.N].Type)
			break
		}
		e.Kind = api.NRec
		for _, s := range d.Slots {
			kids(s.Type)
		}
	}
	return e
}

// value returns a value of a type, of not much more than a number of nodes, if it can be.
func (c *chance) value(t api.Type, nodes int) api.Value {
	switch t.Kind {
	case api.TInt:
		return api.Value{N: c.number()}
	case api.TBool:
		return api.Value{Kind: api.VBool, N: c.Intn(2)}
	case api.TList:
		v := api.Value{Kind: api.VList}
		for n := c.Intn(max(nodes, 1)); n > 0; {
			kid := c.value(t.Kids[0], n-1)
			n -= value.Size(kid)
			v.Kids = append(v.Kids, kid)
		}
		return v
	}
	d := c.data[slices.IndexFunc(c.data, func(d api.Def) bool { return d.ID == t.Def })]
	if d.Kind == api.KCase {
		n := c.Intn(len(d.Slots))
		return api.Value{Kind: api.VCase, N: n, Kids: []api.Value{c.value(d.Slots[n].Type, nodes-1)}}
	}
	v := api.Value{Kind: api.VRec}
	for _, s := range d.Slots {
		v.Kids = append(v.Kids, c.value(s.Type, nodes/len(d.Slots)))
	}
	return v
}

// args returns values for the slots of a definition.
func (c *chance) args(d api.Def) []api.Value {
	for {
		var l []api.Value
		nodes := pick(c, 2, 8, 8, 30, 250)
		for _, s := range d.Slots {
			l = append(l, c.value(s.Type, nodes))
		}
		if !slices.ContainsFunc(l, func(v api.Value) bool { return value.Size(v) > 256 }) {
			return l
		}
	}
}

// renamed returns a copy of a program in which all names, modules, places and layouts are others.
func (c *chance) renamed(p api.Prog) api.Prog {
	q := api.Prog{Mods: []api.Mod{{ID: c.next(), Name: "x", Uses: []api.ID{c.next()}, Defs: []api.ID{c.next()}}}}
	var rename func(e api.Expr) api.Expr
	rename = func(e api.Expr) api.Expr {
		e.Names = pick(c, nil, []string{"x"}, []string{"", "if", "y"})
		var kids []api.Expr
		for _, kid := range e.Kids {
			kids = append(kids, rename(kid))
		}
		e.Kids = kids
		return e
	}
	for _, d := range p.Defs {
		d.Name, d.Mod, d.Place, d.Layout = pick(c, "", "a", "if"), c.next(), c.Intn(9)-4, pick(c, nil, []string{"", " "})
		d.Body = rename(d.Body)
		d.Slots = slices.Clone(d.Slots)
		for i := range d.Slots {
			d.Slots[i].Name, d.Slots[i].Place = pick(c, "", "a", "if"), c.Intn(9)-4
		}
		q.Defs = append(q.Defs, d)
	}
	return q
}

// all returns the nodes of an expression.
func all(e api.Expr) []api.Expr {
	l := []api.Expr{e}
	for _, kid := range e.Kids {
		l = append(l, all(kid)...)
	}
	return l
}

// enough checks that there are so many of some things.
func enough(t *testing.T, counts map[string]int, least int, what ...string) {
	t.Helper()
	for _, x := range what {
		if counts[x] < least {
			t.Errorf("there are only %d of: %s", counts[x], x)
		}
	}
}

// TestExprOfChance compares normal forms of bodies and parts of sound programs of chance with the rule.
func TestExprOfChance(t *testing.T) {
	counts := map[string]int{}
	for seed := range 1600 {
		c := newChance(t, seed)
		for _, d := range c.p.Defs {
			if !bodyByRule(d) {
				continue
			}
			for _, e := range []api.Expr{d.Body, pick(c, all(d.Body)...)} {
				r := rule{steps: counts}
				want, got := r.normal(e), normal.Expr(c.p, e)
				if r.hidden {
					counts["hidden"]++
				} else if !alike(got, want) {
					t.Fatalf("P14.1: %s becomes %s, by the rule %s", show(e), show(got), show(want))
				}
				again := normal.Expr(c.p, got)
				if !alike(again, got) || !slices.Equal(plain.key(again), plain.key(got)) {
					t.Fatalf("P14.6: %s becomes %s, and this %s", show(e), show(got), show(again))
				}
				if nodes(got) > nodes(e) {
					t.Fatalf("P14.6: %s becomes the larger %s", show(e), show(got))
				}
			}
		}
	}
	enough(t, counts, 15, "not not", "add 0 0", "add 0 1", "sub 0", "mul 1 0", "mul 1 1", "if true", "if false", "if the same", "let literal", "let variable", "let without", "field", "match", "hidden")
	for n := range api.Join {
		enough(t, counts, 15, "literals of "+strconv.Itoa(n))
	}
	for _, n := range []int{api.Add, api.Mul, api.Same, api.And, api.Or} {
		enough(t, counts, 15, "exchange "+strconv.Itoa(n))
	}
	for _, n := range []int{api.And, api.Or} {
		for _, place := range []string{" 0", " 1"} {
			enough(t, counts, 15, "decides "+strconv.Itoa(n)+place, "decides nothing "+strconv.Itoa(n)+place)
		}
	}
}

// normalized returns a program with normal forms in the place of the bodies.
func normalized(p api.Prog) api.Prog {
	p.Defs = slices.Clone(p.Defs)
	for i := range p.Defs {
		p.Defs[i].Body = normal.Expr(p, p.Defs[i].Body)
	}
	return p
}

// TestValuesOfChance calls definitions of programs of chance with normal forms in the place of the bodies: they have the same values after as many steps at most.
func TestValuesOfChance(t *testing.T) {
	counts := map[string]int{}
	for seed := range 1500 {
		c := newChance(t, seed)
		q := normalized(c.p)
		if l := check.All(q); len(l) > 0 {
			t.Fatalf("P14.5: with normal forms, %+v becomes %+v, which is not sound: %+v", c.p, q, l)
		}
		for _, d := range c.p.Defs {
			if !bodyByRule(d) {
				continue
			}
			for range 3 {
				args := c.args(d)
				const plenty = 20000
				want, steps, code := eval.Call(c.p, d.ID, args, plenty)
				if code != api.OK {
					counts["failed"]++
					continue
				}
				got, fewer, code := eval.Call(q, d.ID, args, plenty)
				if code != api.OK || value.Compare(got, want) != 0 || fewer > steps {
					t.Fatalf("P14.5: in %+v the call of %v for %+v is %+v after %d steps, with normal forms %+v after %d (error %d)", c.p, d.ID, args, want, steps, got, fewer, code)
				}
				if counts["the same"]++; fewer < steps {
					counts["fewer steps"]++
				}
			}
		}
	}
	enough(t, counts, 2500, "the same", "fewer steps")
}

// mapped returns a program, and its expressions, in which other IDs stand for those of definitions, slots and nodes.
func mapped(p api.Prog, to func(id api.ID, slot bool) api.ID) (api.Prog, func(e api.Expr) api.Expr) {
	slots := map[api.ID]bool{}
	for _, d := range p.Defs {
		for _, s := range d.Slots {
			slots[s.ID] = true
		}
	}
	other := func(id api.ID) api.ID { return to(id, slots[id]) }
	var ofType func(t api.Type) api.Type
	ofType = func(t api.Type) api.Type {
		kids := t.Kids
		t.Def, t.Kids = other(t.Def), nil
		for _, kid := range kids {
			t.Kids = append(t.Kids, ofType(kid))
		}
		return t
	}
	var ofExpr func(e api.Expr) api.Expr
	ofExpr = func(e api.Expr) api.Expr {
		kids := e.Kids
		e.ID, e.Ref, e.Type, e.Kids = other(e.ID), other(e.Ref), ofType(e.Type), nil
		for _, kid := range kids {
			e.Kids = append(e.Kids, ofExpr(kid))
		}
		return e
	}
	q := api.Prog{}
	for _, d := range p.Defs {
		d.ID, d.Result, d.Body, d.Slots = other(d.ID), ofType(d.Result), ofExpr(d.Body), slices.Clone(d.Slots)
		for i := range d.Slots {
			d.Slots[i].ID, d.Slots[i].Type = other(d.Slots[i].ID), ofType(d.Slots[i].Type)
		}
		q.Defs = append(q.Defs, d)
	}
	return q, ofExpr
}

// TestMeaningOfChance compares meanings and cones in programs of chance, some of which lack definitions or have circles, with the rule.
func TestMeaningOfChance(t *testing.T) {
	counts := map[string]int{}
	for seed := range 600 {
		c := newChance(t, 2*seed) // so that no variable of one node can become that of another one
		p := c.p
		if seed%2 == 1 {
			p.Defs = slices.Clone(p.Defs)
			for range 1 + c.Intn(3) {
				c.loosen(&p)
			}
		}
		for i, d := range c.p.Defs {
			got, e := normal.Meaning(p, d.ID)
			want := api.Digest{}
			rule := errorByRule(p, d.ID, nil)
			if rule == api.OK {
				want = meaningByRule(p, d.ID)
			}
			if got != want || e != rule {
				t.Fatalf("P14.3: in %+v the meaning of %v is %x (error %d), by the rule %x (error %d)", p, d.ID, got, e, want, rule)
			}
			if again, e := normal.Meaning(c.renamed(p), d.ID); again != got || e != rule {
				t.Fatalf("P14.7: in %+v the meaning of %v is %x (error %d), with other names %x (error %d)", p, d.ID, got, rule, again, e)
			}
			counts["error "+strconv.Itoa(int(e))]++
			cone := normal.Cone(p, d.ID)
			if want := coneByRule(p, d.ID); !slices.Equal(cone, want) || !slices.Equal(cone, normal.Cone(c.renamed(p), d.ID)) {
				t.Fatalf("P14.4: in %+v the cone of %v is %v, by the rule %v", p, d.ID, cone, want)
			}
			counts["cone "+strconv.Itoa(min(len(cone), 4))]++
			if e != api.OK {
				continue
			}
			// Only what is in the cone has to do with it.
			q := p
			q.Defs = slices.DeleteFunc(slices.Clone(p.Defs), func(d api.Def) bool { return !slices.Contains(cone, d.ID) })
			if alone, _ := normal.Meaning(q, d.ID); alone != got {
				t.Fatalf("P14.3: in %+v the meaning of %v is %x, without what is not in its cone %x", p, d.ID, got, alone)
			}
			if i > 0 {
				other, _ := normal.Meaning(p, c.p.Defs[i-1].ID)
				if counts["another meaning"]++; other == got {
					counts["the same meaning"]++
				}
			}
		}
	}
	enough(t, counts, 150, "error 0", "cone 0", "cone 1", "cone 2", "cone 3", "cone 4", "another meaning")
	enough(t, counts, 50, "error "+strconv.Itoa(int(api.ErrNone)), "error "+strconv.Itoa(int(api.ErrCycle)))
	if counts["the same meaning"] > counts["another meaning"]/10 {
		t.Errorf("many of the meanings are the same: %v", counts)
	}
}

// loosen takes a definition away, or makes one name another one.
func (c *chance) loosen(p *api.Prog) {
	i := c.Intn(len(p.Defs))
	d := &p.Defs[i]
	if c.Intn(3) == 0 && len(p.Defs) > 1 {
		p.Defs = slices.Delete(p.Defs, i, i+1)
		return
	}
	named := pick(c, p.Defs...).ID
	if bodyByRule(*d) && c.Intn(2) == 0 {
		d.Body = let(0, call(0), d.Body)
		d.Body.ID, d.Body.Kids[0].Ref = c.fresh(), named
		return
	}
	d.Slots = slices.Insert(slices.Clone(d.Slots), c.Intn(len(d.Slots)+1), api.Slot{ID: c.fresh(), Type: listOf(api.Type{Kind: api.TDef, Def: named})})
}

// TestSameOfChance compares parts of programs of chance with those of the same program with other IDs in the same order, and with those of others.
func TestSameOfChance(t *testing.T) {
	counts := map[string]int{}
	for seed := range 600 {
		c := newChance(t, 2*seed)
		double := func(id api.ID, more int) api.ID { return api.ID{Shop: id.Shop, Seq: id.Seq, Index: 2*id.Index + more} }
		p, inP := mapped(c.p, func(id api.ID, slot bool) api.ID { return double(id, 0) })
		q, inQ := mapped(c.p, func(id api.ID, slot bool) api.ID {
			if slot { // those of variables that are free stay
				return double(id, 0)
			}
			return double(id, 1)
		})
		for i, d := range p.Defs {
			a, _ := normal.Meaning(p, d.ID)
			if b, _ := normal.Meaning(q, q.Defs[i].ID); a != b {
				t.Fatalf("P14.3: in %+v the meaning of %v is %x, and %x with other IDs in the same order", p, d.ID, a, b)
			}
			if bodyByRule(d) && !normal.Same(p, d.Body, q, q.Defs[i].Body) {
				t.Fatalf("P14.2: %s of %+v is not the same as %s with other IDs in the same order", show(d.Body), p, show(q.Defs[i].Body))
			}
		}
		var parts []api.Expr
		for _, d := range c.p.Defs {
			if bodyByRule(d) {
				parts = append(parts, all(d.Body)...)
			}
		}
		for range 30 {
			x, y := pick(c, parts...), pick(c, parts...)
			if c.Intn(2) == 0 {
				y = c.twin(x)
			}
			a, b := inP(x), inQ(y)
			same := normal.Same(p, a, q, b)
			if want := sameByRule(p, a, q, b); same != want {
				t.Fatalf("P14.2: %s of %+v is the same as %s of %+v: %v", show(a), p, show(b), q, same)
			}
			counts["same "+strconv.FormatBool(same)+", with kids "+strconv.FormatBool(len(x.Kids) > 0)]++
		}
	}
	enough(t, counts, 1000, "same true, with kids true", "same false, with kids true", "same true, with kids false", "same false, with kids false")
}
