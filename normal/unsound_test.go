package normal_test

import (
	"math"
	"slices"
	"testing"

	"splicery/api"
	"splicery/normal"
)

// TestShapes has nodes with wrong numbers of kids, wrong kinds and wrong numbers, for which nothing is specified but that there is a result.
func TestShapes(t *testing.T) {
	kids := []api.Expr{num(1), is(1), v(1), v(10), rec(point), rec(point, num(2)), one(shape, 0, v(10)), {Kind: api.NCase}, list(whole), not(not(v(10))), {Kind: api.NOp, N: api.Not}, let(10, v(10), v(10))}
	kinds := []int{-1, api.NInt, api.NBool, api.NVar, api.NCall, api.NOp, api.NIf, api.NLet, api.NRec, api.NField, api.NCase, api.NMatch, api.NList, api.NFold, 13, math.MinInt, math.MaxInt}
	p := prog(def(30, api.KFun, whole, call(30)), data(point, api.KRec, of(77)))
	for _, kind := range kinds {
		for _, n := range []int{math.MinInt, -1, 0, 1, 2, 5, 9, 11, 12, math.MaxInt} {
			for i := range 4 * len(kids) {
				for some := range 5 {
					e := api.Expr{ID: id(10), Kind: kind, N: n, Ref: id(10)}
					for k := range some {
						e.Kids = append(e.Kids, kids[(i/len(kids)*k+i)%len(kids)])
					}
					for _, e := range []api.Expr{e, let(10, num(3), e), let(12, v(10), let(10, call(f), e)), match(10, shape, one(shape, 1, e), e, e)} {
						got := normal.Expr(p, e)
						if nodes(got) > nodes(e) {
							t.Fatalf("P14.6: %s becomes the larger %s", show(e), show(got))
						}
						if !normal.Same(p, e, p, e) {
							t.Fatalf("P14.2: %s is not the same as itself", show(e))
						}
					}
				}
			}
		}
	}
}

// TestUnsound has programs of chance that are not sound.
func TestUnsound(t *testing.T) {
	counts := map[string]int{}
	for seed := range 1000 {
		c := newChance(t, seed)
		p := c.p
		p.Defs = slices.Clone(p.Defs)
		for range 4 {
			c.spoil(&p)
		}
		for _, d := range p.Defs {
			got, e := normal.Meaning(p, d.ID)
			if again, f := normal.Meaning(p, d.ID); again != got || e != f || e != api.OK && got != (api.Digest{}) {
				t.Fatalf("P14.3: in %+v the meaning of %v is %x (error %d), and again %x (error %d)", p, d.ID, got, e, again, f)
			}
			if rule := errorByRule(p, d.ID, nil); e != rule {
				t.Fatalf("P14.3: in %+v the meaning of %v has the error %d, by the rule %d", p, d.ID, e, rule)
			}
			if cone := normal.Cone(p, d.ID); !slices.Equal(cone, coneByRule(p, d.ID)) {
				t.Fatalf("P14.4: in %+v the cone of %v is %v", p, d.ID, cone)
			}
			form := normal.Expr(p, d.Body)
			if nodes(form) > nodes(d.Body) || !normal.Same(p, d.Body, p, d.Body) {
				t.Fatalf("P14.6: in %+v the body of %v becomes the larger %s", p, d.ID, show(form))
			}
			switch e {
			case api.OK:
				counts["meaning"]++
			case api.ErrNone:
				counts["none"]++
			case api.ErrCycle:
				counts["cycle"]++
			}
		}
	}
	enough(t, counts, 200, "meaning", "none", "cycle")
}

// spoil changes something in a program, after which nothing may be sound.
func (c *chance) spoil(p *api.Prog) {
	i := c.Intn(len(p.Defs))
	d := p.Defs[i]
	d.Slots = slices.Clone(d.Slots)
	some := id(1 + c.Intn(c.last))
	switch c.Intn(5) {
	case 0:
		d.Kind = c.Intn(8) - 1
	case 1:
		d.Slots = append(d.Slots, api.Slot{ID: some, Type: pick(c, whole, c.typeOf(1), api.Type{Kind: 9}, api.Type{Kind: api.TList})})
	case 2:
		d.ID = pick(c, p.Defs...).ID
	case 3:
		for i := range d.Slots {
			d.Slots[i].Type = api.Type{Kind: api.TDef, Def: pick(c, d.ID, some, pick(c, p.Defs...).ID)}
		}
	default:
		n := c.Intn(nodes(d.Body))
		d.Body = c.spoilt(d.Body, &n)
	}
	p.Defs[i] = d
}

// spoilt returns an expression in which the node n in preorder is another one.
func (c *chance) spoilt(e api.Expr, n *int) api.Expr {
	e.Kids = slices.Clone(e.Kids)
	if *n--; *n == -1 {
		switch c.Intn(7) {
		case 0:
			e.Kind = c.Intn(15) - 1
		case 1:
			e.N = pick(c, -1, 0, 1, 2, 3, 11, 12, math.MinInt, math.MaxInt)
		case 2:
			e.Ref = pick(c, id(1+c.Intn(c.last)), pick(c, c.p.Defs...).ID)
		case 3:
			e.Kids = append(e.Kids, num(1))
		case 4:
			e.Kids = e.Kids[:len(e.Kids)/2]
		case 5:
			e.Kids = append(e.Kids, e.Kids...)
		case 6:
			e.ID = id(1 + c.Intn(c.last))
		}
	}
	for i := range e.Kids {
		e.Kids[i] = c.spoilt(e.Kids[i], n)
	}
	return e
}
