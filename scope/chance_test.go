package scope_test

import (
	"math/rand"
	"reflect"
	"slices"
	"testing"

	"splicery/api"
	"splicery/scope"
	"splicery/syntax"
)

// chance makes programs of chance. In wild ones, anything may be wrong.
type chance struct {
	*rand.Rand
	wild bool
	p    api.Prog
	last int // the index of the last ID
}

// one returns an element of a list.
func one[T any](c *chance, l ...T) T { return l[c.Intn(len(l))] }

// next returns an ID, in a wild program perhaps one that there is.
func (c *chance) next() api.ID {
	if c.wild && c.Intn(20) == 0 {
		return id(1 + c.Intn(60))
	}
	c.last++
	return id(c.last)
}

// program returns a program with up to four modules.
func (c *chance) program() api.Prog {
	c.p, c.last = api.Prog{}, 9
	mods := 1 + c.Intn(4)
	for i := range mods {
		m := api.Mod{ID: id(1 + i), Name: []string{"m", "k", "j", "l"}[i]}
		for range c.Intn(4) {
			m.Uses = append(m.Uses, id(1+c.Intn(mods)))
		}
		if c.wild {
			m.ID = id(1 + c.Intn(5))
			m.Name = one(c, "m", "k", "", "a.b", "if", "a")
			m.Uses = append(m.Uses, id(c.Intn(7)))
		}
		c.p.Mods = append(c.p.Mods, m)
	}
	for range 2 + c.Intn(8) {
		c.p.Defs = append(c.p.Defs, c.head(mods))
	}
	for i := range c.p.Defs {
		c.complete(&c.p.Defs[i])
	}
	return c.p
}

// head returns a definition without its types and its body.
func (c *chance) head(mods int) api.Def {
	d := api.Def{ID: c.next(), Kind: one(c, api.KRec, api.KRec, api.KCase, api.KCase, api.KFun, api.KFun, api.KOn, api.KTest, api.KConv), Mod: id(1 + c.Intn(mods)), Name: one(c, "f", "g", "h", "P", "Q", "S", "T")}
	names := []string{"a", "b", "a1", "b1", "x", "abcdefghijklmnop", "abcdefghijklmno1"}
	c.Shuffle(len(names), func(i, j int) { names[i], names[j] = names[j], names[i] })
	for i := range c.Intn(4) {
		s := api.Slot{ID: c.next(), Name: names[i], Place: i}
		if d.Kind == api.KTest {
			s.Most = c.Intn(5)
		}
		if c.wild && c.Intn(10) == 0 {
			s.Name, s.Most = one(c, "a", "b", "if", "Int", ""), c.Intn(3)-1
		}
		d.Slots = append(d.Slots, s)
	}
	if c.wild {
		d.Mod = id(c.Intn(6))
		d.Name = one(c, "f", "g", "P", "P", "Q", "S", "T", "c", "Int", "Bool", "if", "", "k.f", "b.c", ".", "f.")
		if c.Intn(20) == 0 {
			d.Kind = one(c, -1, 6, api.KRec)
		}
	}
	d.Layout = c.layout()
	return d
}

// layout returns a layout, which may be usable if it fits.
func (c *chance) layout() []string {
	var l []string
	for range c.Intn(40) {
		l = append(l, one(c, " ", "  ", "\n", " # x\n", "\n\n"))
	}
	if len(l) > 0 {
		l[len(l)-1] = one(c, "\n", " # end\n", " \n", "", "\n\n", "# end")
	}
	return l
}

// complete gives a definition its types and its body.
func (c *chance) complete(d *api.Def) {
	var around []own
	for i := range d.Slots {
		d.Slots[i].Type = c.typeOf(2)
		around = append(around, own{d.Slots[i].ID, 0, ""})
	}
	if d.Kind >= api.KFun || c.wild && c.Intn(5) == 0 {
		d.Result = c.typeOf(2)
		d.Body = c.expr(1+c.Intn(5), around)
	}
}

// ref returns the ID of a definition of one of some kinds; false, if there is none.
func (c *chance) ref(kinds ...int) (api.ID, int, bool) {
	if c.wild && c.Intn(50) == 0 {
		d := one(c, c.p.Defs...)
		return d.ID, len(d.Slots), true
	}
	for _, i := range c.Perm(len(c.p.Defs)) {
		if d := c.p.Defs[i]; slices.Contains(kinds, d.Kind) {
			return d.ID, len(d.Slots), true
		}
	}
	return id(99), 0, false
}

func (c *chance) typeOf(depth int) api.Type {
	switch n, _, ok := c.ref(api.KRec, api.KCase); c.Intn(5) {
	case 0:
		return truth
	case 1:
		if depth > 0 {
			return listOf(c.typeOf(depth - 1))
		}
	case 2, 3:
		if ok {
			return api.Type{Kind: api.TDef, Def: n}
		}
	}
	if c.wild && c.Intn(60) == 0 {
		return one(c, api.Type{Kind: -1}, api.Type{Kind: api.TList}, api.Type{Kind: 4}, of(99), api.Type{Kind: api.TList, Kids: make([]api.Type, 2)})
	}
	return whole
}

// expr returns an expression, where some names are bound around it.
func (c *chance) expr(depth int, around []own) api.Expr {
	e := api.Expr{ID: c.next(), Kind: one(c, api.NVar, api.NVar, api.NVar, api.NCall, api.NOp, api.NOp, api.NIf, api.NLet, api.NLet, api.NLet, api.NRec, api.NField, api.NCase, api.NMatch, api.NMatch, api.NList, api.NFold, api.NFold, api.NFold)}
	if depth == 0 {
		e.Kind = one(c, api.NInt, api.NBool, api.NVar, api.NVar, api.NVar, api.NVar)
	}
	kids := c.content(&e, around)
	for i := range kids {
		inside := slices.Clone(around)
		for _, n := range bindsByRule(e.Kind, i) {
			e.Names = append(e.Names, one(c, "a", "a", "a", "b", "a1", "x", "abcdefghijklmnop", "abcdefghijklmno1", "abcdefghijklmno"))
			inside = append(inside, own{e.ID, n, ""})
		}
		e.Kids = append(e.Kids, c.expr(max(depth-1, 0), inside))
	}
	if c.wild && c.Intn(100) == 0 {
		c.spoil(&e)
	}
	return e
}

// content fills in what a node of a kind has, and returns the number of its kids. If there is nothing that it can name, it becomes a number.
func (c *chance) content(e *api.Expr, around []own) int {
	kids, ok := map[int]int{api.NIf: 3, api.NLet: 2, api.NFold: 3, api.NField: 1, api.NCase: 1, api.NOp: 2}[e.Kind], true
	switch e.Kind {
	case api.NInt:
		e.N = c.Intn(20) - 10
	case api.NBool:
		e.N = c.Intn(2)
	case api.NOp:
		if e.N = c.Intn(api.Len + 1); e.N == api.Not || e.N == api.Len {
			kids = 1
		}
	case api.NVar:
		if ok = len(around) > 0; ok {
			x := one(c, around...)
			e.Ref, e.N = x.id, x.n
		}
	case api.NList:
		e.Type, kids = c.typeOf(2), c.Intn(3)
	}
	if right := rightKinds(e.Kind); right != nil {
		var n int
		e.Ref, n, ok = c.ref(right...)
		switch e.Kind {
		case api.NCall, api.NRec:
			kids = n
		case api.NMatch:
			kids, ok = n+1, ok && n > 0
		default:
			if ok = ok && n > 0; ok {
				e.N = c.Intn(n)
			}
		}
	}
	if !ok {
		*e = api.Expr{ID: e.ID, N: 1}
		return 0
	}
	return kids
}

// spoil changes something in a node.
func (c *chance) spoil(e *api.Expr) {
	switch c.Intn(7) {
	case 0:
		e.Kind = c.Intn(15) - 1
	case 1:
		e.N += one(c, -1, 1, api.MaxInt)
	case 2:
		e.Ref = id(c.Intn(80))
	case 3:
		e.Kids = append(e.Kids, api.Expr{})
	case 4:
		e.Kids = e.Kids[:len(e.Kids)/2]
	case 5:
		e.Names = append(e.Names, "x")
	case 6:
		for i := range e.Names {
			e.Names[i] = one(c, "if", "", "x.y", "Int", "abcdefghijklmnopq")
		}
	}
}

// names has names of all kinds of shapes.
func names() []string {
	l := []string{"f", "g", "P", "Q", "S", "T", "c", "Int", "if", "", ".", "..", "k.f", "b.c", "a.b.c", "m.f", "m.P", "k.P", "k.S", "j.g", "m.", ".f", "a.", "m.k.f", ".Int", "if.f", "f.", "a.f.", "m..", "l.T"}
	return l
}

// TestChanceNames compares Find and Name with the rule, with P8.5.
func TestChanceNames(t *testing.T) {
	found := [4]int{}
	for seed := range 3000 {
		c := &chance{Rand: rand.New(rand.NewSource(int64(seed))), wild: seed%4 > 0}
		p := c.program()
		for mod := range 7 {
			for _, name := range names() {
				got, want := scope.Find(p, id(mod), name), findByRule(p, id(mod), name)
				if !slices.Equal(got, want) {
					t.Fatalf("P8.1: Find of %q in %d of %+v is %v, not %v", name, mod, p, got, want)
				}
				found[min(len(got), 3)]++
			}
			for _, d := range p.Defs {
				got, want := scope.Name(p, id(mod), d.ID), nameByRule(p, id(mod), d.ID)
				if got != want {
					t.Fatalf("P8.1: the name of %v in %d of %+v is %q, not %q", d.ID, mod, p, got, want)
				}
				if l := scope.Find(p, id(mod), got); got != "" && !slices.Equal(l, []api.ID{d.ID}) {
					t.Fatalf("P8.5: Find of %q in %d of %+v is %v", got, mod, p, l)
				}
			}
		}
	}
	for i, n := range found {
		if n < 100 {
			t.Errorf("%d names stand for %d definitions", n, i)
		}
	}
}

// isPlain reports whether P8.6 speaks of a definition: different slots, different IDs, and no ambiguous slots of records and variants.
func isPlain(p api.Prog, d api.Def) bool {
	ok := true
	unique := func(l []api.Slot) {
		seen := map[string]bool{}
		for _, s := range l {
			ok = ok && !seen[s.Name]
			seen[s.Name] = true
		}
	}
	unique(d.Slots)
	seen := map[api.ID]bool{}
	mark := func(n api.ID) {
		ok = ok && !seen[n]
		seen[n] = true
	}
	for _, s := range d.Slots {
		mark(s.ID)
	}
	for _, e := range nodes(d.Body) {
		mark(e.ID)
		if right := rightKinds(e.Kind); right != nil && e.Kind != api.NCall {
			x, _ := firstDef(p, e.Ref)
			unique(x.Slots)
		}
		unused := e.N != 0 && !slices.Contains([]int{api.NInt, api.NBool, api.NVar, api.NOp, api.NField, api.NCase}, e.Kind) || e.Ref != api.ID{} && e.Kind != api.NVar && rightKinds(e.Kind) == nil || e.Kind != api.NList && !reflect.DeepEqual(e.Type, whole)
		ok = ok && !unused
	}
	hasBody := slices.Contains([]int{api.KFun, api.KOn, api.KTest, api.KConv}, d.Kind)
	return ok && (hasBody || reflect.DeepEqual(d.Body, api.Expr{}) && reflect.DeepEqual(d.Result, whole))
}

// again checks P8.6 and P8.8 for a definition, in a program where it is the first one with its ID.
func (c *chance) again(t *testing.T, p api.Prog, d api.Def, f form) {
	t.Helper()
	in := func(x api.Def) api.Prog {
		q := p
		q.Defs = append([]api.Def{x}, p.Defs...)
		return q
	}
	all := nodes(d.Body)
	next := []api.ID{d.ID}
	for _, s := range d.Slots {
		next = append(next, s.ID)
	}
	for _, e := range all {
		next = append(next, e.ID)
	}
	other := slices.Concat(next[:1], ids(7000, len(next)-1))
	corresponding := map[api.ID]api.ID{}
	for i, n := range other {
		corresponding[n] = next[i]
	}
	bound, _, e := scope.Bind(p, d.Mod, f, other)
	if e != api.OK || bound.Kind != d.Kind || bound.Name != d.Name || !sameType(bound.Result, d.Result) || !sameNodes(bound.Body, d.Body, corresponding) || !slices.EqualFunc(bound.Slots, d.Slots, func(a, b api.Slot) bool { return a.Name == b.Name && sameType(a.Type, b.Type) }) {
		t.Fatalf("P8.6: in %+v the form %s of %+v becomes %+v, %d", p, written(f), d, bound, e)
	}
	if g, e := scope.Unbind(in(bound), d.ID); e != api.OK || !reflect.DeepEqual(g, f) {
		t.Fatalf("P8.6: in %+v the form %+v becomes %+v, %d", p, f, g, e)
	}
	// The same IDs lead to the same definition, whatever the names are.
	name := one(c, "a", "b", "a1", "u", "abcdefghijklmnop", "abcdefghijklmno1", "f")
	if slices.ContainsFunc(d.Slots, func(s api.Slot) bool { return s.Name == name }) {
		return
	}
	first, _, _ := scope.Bind(p, d.Mod, f, next)
	d.Slots = slices.Clone(d.Slots)
	at, count := c.Intn(20), 0
	for i := range d.Slots {
		if count == at {
			d.Slots[i].Name = name
		}
		count++
	}
	d.Body = changed(d.Body, func(e *api.Expr) {
		for i := range e.Names {
			if count == at {
				e.Names[i] = name
			}
			count++
		}
	})
	g, e := scope.Unbind(in(d), d.ID)
	if e != api.OK {
		t.Fatalf("P8.8: in %+v Unbind of %+v fails with %d", p, d, e)
	}
	second, _, e := scope.Bind(p, d.Mod, g, next)
	same := func(x api.Expr) string { return show(changed(x, func(e *api.Expr) { e.Names = nil })) }
	if e != api.OK || same(second.Body) != same(first.Body) {
		t.Fatalf("P8.8: in %+v the form %s becomes %s, %d instead of %s", p, written(g), show(second.Body), e, show(first.Body))
	}
}

// TestChanceForms compares Unbind with the rule, with P8.6 and P8.8.
func TestChanceForms(t *testing.T) {
	counts := map[api.Errno]int{}
	again, laid := 0, 0
	for seed := range 8000 {
		c := &chance{Rand: rand.New(rand.NewSource(int64(seed))), wild: seed%2 > 0}
		p := c.program()
		for i, d := range p.Defs {
			f, e := scope.Unbind(p, d.ID)
			if e == api.OK && c.Intn(3) == 0 { // a layout that fits
				l := slices.Repeat([]string{one(c, " ", "\n", " # x\n", "")}, len(syntax.Tokens(f))+1)
				l[0], l[len(l)-1] = one(c, "", "\n", "# x\n", "#"), one(c, "\n", " # x\n", " \n", "", "\n\n")
				p.Defs[i].Layout, d.Layout = l, l
				f, e = scope.Unbind(p, d.ID)
			}
			want, wantE := unbindByRule(p, d.ID)
			if e != wantE || !reflect.DeepEqual(f, want) {
				t.Fatalf("P8.3: in %+v the form of %+v is %+v, %d, not %+v, %d", p, d, f, e, want, wantE)
			}
			counts[e]++
			laid += min(len(f.Layout), 1)
			d, _ = firstDef(p, d.ID)
			if _, ok := firstMod(p, d.Mod); ok && e == api.OK && isPlain(p, d) {
				c.again(t, p, d, f)
				again++
			}
		}
	}
	for _, e := range []api.Errno{api.OK, api.ErrDead, api.ErrName} {
		if counts[e] < 1000 || again < 1000 || laid < 300 {
			t.Errorf("the errors are %v, %d definitions are bound again, %d have layouts", counts, again, laid)
		}
	}
}

// TestChanceSources compares Source with the rule, with P8.7.
func TestChanceSources(t *testing.T) {
	counts := map[api.Errno]int{}
	for seed := range 5000 {
		c := &chance{Rand: rand.New(rand.NewSource(int64(seed))), wild: seed%4 == 0}
		p := c.program()
		for i := range p.Mods {
			for _, d := range p.Defs {
				if d.Mod == p.Mods[i].ID {
					p.Mods[i].Defs = append(p.Mods[i].Defs, d.ID)
				}
			}
			if c.Intn(20) == 0 {
				p.Mods[i].Defs = append(p.Mods[i].Defs, id(c.Intn(50)))
			}
		}
		for n := range 6 {
			want, e := api.OK, api.OK
			s := syntax.Source{}
			m, ok := firstMod(p, id(n))
			if !ok {
				want = api.ErrNone
			}
			s.Name = m.Name
			for _, u := range m.Uses {
				k, ok := firstMod(p, u)
				if !ok {
					want = api.ErrNone
				}
				s.Uses = append(s.Uses, k.Name)
			}
			for _, u := range m.Defs {
				if want == api.OK {
					var f form
					f, want = unbindByRule(p, u)
					s.Defs = append(s.Defs, f)
				}
			}
			if want == api.OK && len(syntax.Heads(s)) == 0 {
				want = api.ErrName
			}
			if want != api.OK {
				sourceless(t, p, id(n), want)
			} else if got := sourced(t, p, id(n)); !reflect.DeepEqual(got, s) {
				t.Fatalf("P8.4: the source of %d of %+v is %+v, not %+v", n, p, got, s)
			}
			_, e = scope.Source(p, id(n))
			counts[e]++
		}
	}
	for _, e := range []api.Errno{api.OK, api.ErrNone, api.ErrDead, api.ErrName} {
		if counts[e] < 10 {
			t.Errorf("the errors are %v", counts)
		}
	}
}

// misname changes something in a form, mostly a name.
func (c *chance) misname(f *form) {
	if c.Intn(30) == 0 {
		f.Kind = c.Intn(8) - 1
	}
	for i := range f.Slots {
		if c.Intn(20) == 0 {
			f.Slots[i].Name = one(c, "a", "b", "u", "if")
		}
		if c.Intn(20) == 0 {
			f.Slots[i].Type.Name = one(c, names()...)
		}
	}
	if f.Kind >= api.KFun && f.Kind <= api.KConv {
		c.misterm(&f.Body)
	}
}

// misterm changes something in some of the nodes of a term.
func (c *chance) misterm(t *term) {
	for i := range t.Kids {
		c.misterm(&t.Kids[i])
	}
	if c.Intn(12) > 0 {
		return
	}
	parts := len(t.Names)
	switch t.Kind {
	case api.NVar:
		t.Name = one(c, "a", "a", "b", "b", "a1", "x", "if", "k.a")
	case api.NCall:
		t.Name = one(c, names()...)
	case api.NField, api.NCase:
		t.Field = one(c, "a", "b", "a1", "x", "b1", "if")
	case api.NLet, api.NFold:
		t.Names[c.Intn(parts)] = one(c, "a", "b", "a1", "x")
	case api.NMatch, api.NRec:
		step := 2
		if t.Kind == api.NRec {
			step = 1
		}
		if parts == 0 {
			break
		}
		i, j := c.Intn(parts/step), c.Intn(parts/step)
		first := len(t.Kids) - parts/step
		switch c.Intn(4) {
		case 0, 1: // another order
			for n := range step {
				t.Names[i*step+n], t.Names[j*step+n] = t.Names[j*step+n], t.Names[i*step+n]
			}
			t.Kids[first+i], t.Kids[first+j] = t.Kids[first+j], t.Kids[first+i]
		case 2: // one left out
			t.Names = slices.Delete(t.Names, i*step, i*step+step)
			t.Kids = slices.Delete(t.Kids, first+i, first+i+1)
		case 3:
			t.Names[i*step] = one(c, "a", "b", "a1", "x", "b1")
		}
	}
}

// TestChanceBinding compares Bind with the rule, for changed forms and too short lists.
func TestChanceBinding(t *testing.T) {
	counts := map[api.Errno]int{}
	for seed := range 6000 {
		c := &chance{Rand: rand.New(rand.NewSource(int64(seed))), wild: seed%3 == 0}
		p := c.program()
		for _, d := range p.Defs {
			f, e := scope.Unbind(p, d.ID)
			if e != api.OK {
				continue
			}
			for range 3 {
				c.misname(&f)
				mod := d.Mod
				if c.Intn(8) == 0 {
					mod = id(c.Intn(6))
				}
				next := ids(300, c.Intn(60))
				got, n, e := scope.Bind(p, mod, f, next)
				want, wantN, wantE := bindByRule(p, mod, f, next)
				if e != wantE || n != wantN || !reflect.DeepEqual(plain(got), plain(want)) {
					t.Fatalf("P8.2: in %+v Bind of %+v in %d with %d IDs is %+v, %d, %d, not %+v, %d, %d", p, f, mod, len(next), got, n, e, want, wantN, wantE)
				}
				counts[e]++
			}
		}
	}
	for _, e := range []api.Errno{api.OK, api.ErrNone, api.ErrForm, api.ErrName, api.ErrLimit} {
		if counts[e] < 200 {
			t.Errorf("the errors are %v", counts)
		}
	}
}

// plain returns a definition in which lists without elements are nil.
func plain(d api.Def) api.Def {
	d.Body = changed(d.Body, func(e *api.Expr) {
		if len(e.Names) == 0 {
			e.Names = nil
		}
	})
	if len(d.Layout) == 0 {
		d.Layout = nil
	}
	return d
}
