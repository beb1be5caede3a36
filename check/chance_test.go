package check_test

import (
	"math"
	"math/rand"
	"reflect"
	"slices"
	"testing"

	"splicery/api"
	"splicery/check"
	"splicery/types"
)

// chance changes programs by chance.
type chance struct{ *rand.Rand }

// pick returns an element of a list.
func pick[T any](c chance, l ...T) T { return l[c.Intn(len(l))] }

// typeOf returns a type of some definition, or none that is valid.
func (c chance) typeOf(p api.Prog, depth int) api.Type {
	switch c.Intn(8) {
	case 0:
		return truth
	case 1, 2:
		if depth > 0 {
			return listOf(c.typeOf(p, depth-1))
		}
	case 3, 4, 5:
		return api.Type{Kind: api.TDef, Def: c.known(p)}
	case 6:
		if c.Intn(4) == 0 {
			return api.Type{Kind: c.Intn(6) - 1, Def: c.known(p), Kids: []api.Type{c.typeOf(p, 0)}}
		}
	}
	return whole
}

// known returns the ID of a definition, most often of one that is there.
func (c chance) known(p api.Prog) api.ID {
	if len(p.Defs) == 0 || c.Intn(12) == 0 {
		return id(pick(c, 0, 1000, 1100, 1300, 1900, none))
	}
	return pick(c, p.Defs...).ID
}

// changeNode changes something in a node of a body, or puts another node of the program in its place.
func (c chance) changeNode(p api.Prog, d *api.Def) {
	e := at(&d.Body, pick(c, paths(d.Body)...))
	switch c.Intn(9) {
	case 0:
		e.Kind = c.Intn(15) - 1
	case 1:
		e.N += pick(c, -1, 1, 2, math.MinInt)
	case 2:
		e.Ref = c.known(p)
	case 3:
		e.Type = c.typeOf(p, 2)
	case 4:
		e.ID.Index += 7
	case 5:
		e.Kids = append(e.Kids, num(7000))
	case 6:
		e.Kids = e.Kids[:len(e.Kids)/2]
	case 7:
		slices.Reverse(e.Kids)
	case 8:
		*e = copied(reflect.ValueOf(pick(c, nodesOf(pick(c, p.Defs...).Body)...))).Interface().(api.Expr)
	}
}

// changeDef changes something in a definition.
func (c chance) changeDef(p api.Prog, d *api.Def) {
	some := len(d.Slots) > 0
	switch n := c.Intn(20); {
	case n == 0:
		d.Kind = c.Intn(8) - 1
	case n == 1:
		d.Result = c.typeOf(p, 2)
	case n == 2:
		d.Slots = append(d.Slots, api.Slot{ID: id(c.Intn(3000)), Type: c.typeOf(p, 2), Most: c.Intn(70) - 2})
	case n == 3 && some:
		d.Slots = d.Slots[:pick(c, 0, len(d.Slots)-1)]
	case n == 4 && some:
		pick(c, &d.Slots[0], last(*d)).Type = c.typeOf(p, 2)
	case n == 5 && some:
		pick(c, &d.Slots[0], last(*d)).Most = pick(c, -1, 0, 1, 64, 65)
	case n == 6 && some:
		pick(c, &d.Slots[0], last(*d)).ID = id(c.Intn(3000))
	case n == 7:
		slices.Reverse(d.Slots)
	case n < 10:
		c.rename(d)
	default:
		c.changeNode(p, d)
	}
}

// rename changes what does not count: names, modules, places and layouts.
func (c chance) rename(d *api.Def) {
	d.Name, d.Mod, d.Place, d.Layout = pick(c, "a", "if", ""), id(c.Intn(5)), c.Intn(5), pick(c, nil, []string{"", " "})
	for i := range d.Slots {
		d.Slots[i].Name, d.Slots[i].Place = pick(c, "a", "b", ""), c.Intn(5)-2
	}
	for _, path := range paths(d.Body) {
		at(&d.Body, path).Names = pick(c, nil, []string{"x"}, []string{"", "y", "x"})
	}
}

// changed returns a copy of a program in which something is changed.
func (c chance) changed(p api.Prog) api.Prog {
	p = copied(reflect.ValueOf(p)).Interface().(api.Prog)
	if len(p.Defs) == 0 {
		p.Defs = world().Defs
	}
	i := c.Intn(len(p.Defs))
	switch c.Intn(12) {
	case 0:
		p.Defs = slices.Delete(p.Defs, i, i+1)
	case 1:
		p.Defs = slices.Insert(p.Defs, c.Intn(i+1), copied(reflect.ValueOf(p.Defs[i])).Interface().(api.Def))
	case 2:
		j := c.Intn(len(p.Defs))
		p.Defs[i], p.Defs[j] = p.Defs[j], p.Defs[i]
	case 3:
		p.Defs[i].ID = c.known(p)
	default:
		c.changeDef(p, &p.Defs[i])
	}
	return p
}

// oldOf returns conflicts of a program, some of which All would not return.
func (c chance) oldOf(p api.Prog) []api.Conflict {
	l := check.All(p)
	for range c.Intn(4) {
		x := api.Conflict{Code: api.Errno(c.Intn(30)), On: c.known(p), Kind: c.Intn(20)}
		for range pick(c, 0, 1, 1, 1, 2) {
			x.By = append(x.By, c.known(p))
		}
		l = slices.Insert(l, c.Intn(len(l)+1), x)
	}
	return l
}

// count is what is counted of the results for programs of chance.
type count struct {
	what string
	code api.Errno
	kind int
}

// compareProgram checks what is returned for a program against the rule, and P10.6.
func compareProgram(t *testing.T, p api.Prog, counts map[count]int) {
	t.Helper()
	for _, d := range append(p.Defs, api.Def{ID: id(none)}, api.Def{}) {
		code, on := check.Def(p, d.ID)
		if want, at := defByRule(p, d.ID); code != want || on != at {
			t.Fatalf("P10.1: in %+v Def of %v returns %d, %v, not %d, %v", p, d.ID, code, on, want, at)
		}
		d, known := firstDef(p, d.ID)
		if known {
			counts[count{"error", code, d.Kind}]++
		}
		if code == api.OK && bodyOf(d) != nil {
			var l []types.Bound
			for _, s := range d.Slots {
				l = append(l, types.Bound{ID: s.ID, Type: s.Type})
			}
			if got, at, code := types.Infer(p, l, d.Body); !sameType(got, d.Result) || at != (api.ID{}) || code != api.OK {
				t.Fatalf("P10.6: in %+v the body of %v has the type %v, %d at %v", p, d.ID, got, code, at)
			}
		}
	}
	if got, want := check.All(p), allByRule(p); !same(got, want) {
		t.Fatalf("P10.2: in %+v All returns %+v, not %+v", p, got, want)
	}
}

// comparePrograms checks what is returned for two programs against the rule, and P10.5.
func comparePrograms(t *testing.T, c chance, p, q api.Prog, counts map[count]int) {
	t.Helper()
	want := affectedByRule(p, q)
	if got := check.Affected(p, q); !slices.Equal(got, want) {
		t.Fatalf("P10.3: for %+v and %+v Affected returns %v, not %v", p, q, got, want)
	}
	counts[count{"affected", 0, min(len(want), 5)}]++
	old := c.oldOf(p)
	l, n := againByRule(p, q, old)
	if got, examined := check.Again(p, q, old); !same(got, l) || examined != n {
		t.Fatalf("P10.4: for %+v, %+v and %+v Again returns %+v and %d, not %+v and %d", p, q, old, got, examined, l, n)
	}
	if got, examined := check.Again(p, q, check.All(p)); !same(got, check.All(q)) || examined != n {
		t.Fatalf("P10.5: for %+v and %+v Again returns %+v and %d, All %+v", p, q, got, examined, check.All(q))
	}
	for _, x := range check.All(q) {
		if !slices.Contains(want, x.By[0]) {
			counts[count{what: "old error"}]++
		}
	}
	// P10.7: other names count neither in the one nor in the other.
	r := copied(reflect.ValueOf(q)).Interface().(api.Prog)
	for i := range r.Defs {
		c.rename(&r.Defs[i])
	}
	r.Mods = append(r.Mods, api.Mod{Name: "x"})
	if !same(check.All(r), check.All(q)) || len(check.Affected(q, r)) > 0 || len(check.Affected(r, q)) > 0 || !slices.Equal(check.Affected(p, r), want) {
		t.Fatalf("P10.7: for %+v and %+v other names change a result: %+v", p, q, r)
	}
}

// TestChance changes a sound program step by step, until most of it is wrong.
func TestChance(t *testing.T) {
	counts := map[count]int{}
	for seed := range 120 {
		c := chance{rand.New(rand.NewSource(int64(seed)))}
		p := program(t)
		before := []api.Prog{p}
		for range 25 {
			q := c.changed(p)
			compareProgram(t, q, counts)
			comparePrograms(t, c, p, q, counts)
			comparePrograms(t, c, pick(c, before...), q, counts)
			before, p = append(before, q), q
		}
	}
	enough := func(x count) {
		if counts[x] < 20 {
			t.Errorf("there are only %d of %+v", counts[x], x)
		}
	}
	for _, kind := range allKinds {
		enough(count{"error", api.OK, kind})
		enough(count{"error", api.ErrDead, kind})
	}
	for _, kind := range []int{-1, 6, api.KOn, api.KConv} {
		enough(count{"error", api.ErrArg, kind})
	}
	for _, kind := range withBody {
		enough(count{"error", api.ErrType, kind})
	}
	enough(count{"error", api.ErrNeed, api.KRec})
	enough(count{"error", api.ErrNeed, api.KCase})
	enough(count{"error", api.ErrRange, api.KTest})
	enough(count{what: "old error"})
	for n := range 6 {
		enough(count{"affected", 0, n})
	}
}

// TestSmall has small programs of which nothing is right but by chance: IDs are those of a few.
func TestSmall(t *testing.T) {
	counts := map[count]int{}
	for seed := range 20000 {
		c := chance{rand.New(rand.NewSource(int64(seed)))}
		var two [2]api.Prog
		for i := range two {
			for range c.Intn(4) {
				d := api.Def{ID: id(c.Intn(3)), Kind: c.Intn(8) - 1, Result: c.small(2)}
				for range c.Intn(4) {
					d.Slots = append(d.Slots, api.Slot{ID: id(c.Intn(3)), Type: c.small(2), Most: pick(c, 0, 0, 64, 65)})
				}
				d.Body = c.node(2)
				two[i].Defs = append(two[i].Defs, d)
			}
			compareProgram(t, two[i], counts)
		}
		comparePrograms(t, c, two[0], two[1], counts)
	}
	for _, code := range []api.Errno{api.OK, api.ErrDead, api.ErrType} {
		if n := counts[count{"error", code, api.KFun}]; n < 150 {
			t.Errorf("there are only %d functions with the error %d", n, code)
		}
	}
}

// small returns a type of one of a few definitions.
func (c chance) small(depth int) api.Type {
	t := api.Type{Kind: pick(c, 0, 0, 0, 1, 1, 2, 3, 3, 4)}
	if t.Kind == api.TDef || c.Intn(15) == 0 {
		t.Def = id(c.Intn(3))
	}
	if t.Kind == api.TList && depth > 0 {
		t.Kids = []api.Type{c.small(depth - 1)}
	}
	return t
}

// node returns an expression in which few nodes are right.
func (c chance) node(depth int) api.Expr {
	e := api.Expr{ID: id(c.Intn(3)), Kind: pick(c, 0, 0, 1, 1, 2, 2, 3, 3, 4, 5, 6, 7, 8, 9, 10, 11, 12, 13), N: pick(c, 0, 0, 0, 1, 2), Ref: id(c.Intn(3)), Type: c.small(1)}
	if depth > 0 && (e.Kind > api.NVar || c.Intn(10) == 0) {
		for range c.Intn(4) {
			e.Kids = append(e.Kids, c.node(depth-1))
		}
	}
	return e
}
