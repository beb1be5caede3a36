package equiv_test

import (
	"math"
	"slices"
	"strconv"
	"testing"

	"splicery/api"
	"splicery/equiv"
)

// TestUnsound has programs of chance that are not sound, for which nothing is specified but that there is a result.
func TestUnsound(t *testing.T) {
	t.Parallel()
	counts := map[string]int{}
	for seed := range 300 {
		c := newChance(t, 400000+seed)
		x, _ := c.two()
		for range 1 + c.Intn(4) {
			for _, p := range []*api.Prog{&x.p, &x.q} {
				if c.Intn(3) > 0 {
					p.Defs = slices.Clone(p.Defs)
					c.spoil(p)
				}
			}
		}
		for _, d := range x.p.Defs {
			y := x
			y.fuel = 200
			if y.a = d.ID; c.Intn(2) == 0 {
				y.b = d.ID
			}
			l, proof, e := y.differ()
			counts["error "+strconv.Itoa(int(e))]++
			if e != api.ErrDiffer && len(l) > 0 || e != api.OK && !sameProof(proof, equiv.Proof{}) {
				t.Fatalf("P15.1: of %+v Differ returns %+v, %+v and the error %d", y, l, proof, e)
			}
			if e == api.ErrDiffer && !y.witness(l) {
				t.Fatalf("P15.5: of %+v Differ returns %+v, which is no witness", y, l)
			}
			if code := y.check(proof); code != e && (e != api.ErrDiffer || code != api.ErrCheck) {
				t.Fatalf("P15.2: of %+v Differ returns the proof %+v and the error %d, Check the error %d", y, proof, e, code)
			}
			for _, proof := range []equiv.Proof{byForms, c.spoilt(proof), c.spoilt(c.spoilt(proof)), split(0, byForms, byForms, byForms)} {
				y.check(proof)
			}
			if hasBody(d) {
				y.witness(numbers(0))
				y.witness(l)
			}
		}
	}
	enough(t, counts, 20, "error 0", "error "+strconv.Itoa(int(api.ErrNone)), "error "+strconv.Itoa(int(api.ErrType)), "error "+strconv.Itoa(int(api.ErrLimit)), "error "+strconv.Itoa(int(api.ErrDiffer)))
}

// TestLoops has definitions that call themselves, or have themselves as a part.
func TestLoops(t *testing.T) {
	loop := prog(within(def(30, api.KFun, whole, call(30, v(3001)), whole), 1))
	two := prog(within(def(30, api.KFun, whole, add(call(f, v(3001)), call(f, v(3001))), whole), 1), def(f, api.KFun, whole, add(call(30, v(3101)), call(30, v(3101))), whole))
	part := with(def(30, api.KFun, whole, num(1), of(point)), data(point, api.KRec, of(shape)))
	for what, p := range map[string]api.Prog{"a loop": loop, "two": two} {
		x := pair(p, p)
		x.equal(t, what, true)
		x.fuel = math.MinInt
		x.equal(t, what+" without fuel", true)
		x = pair(p, prog(within(constant(3, whole), 1)))
		x.fuel = 1 << 20
		x.equal(t, what+" and a number", false)
	}
	pair(part, part).fails(t, "a record in itself", api.ErrLimit)
	// Kinds that no program has.
	for _, kind := range []int{-1, 6, math.MinInt, math.MaxInt} {
		d := constant(1)
		d.Kind = kind
		pair(prog(d), prog(d)).fails(t, "no kind", api.ErrType)
		pair(prog(d), prog(constant(1))).fails(t, "no kind and a function", api.ErrType)
		pair(prog(constant(1)), prog(d)).fails(t, "a function and no kind", api.ErrType)
	}
}

// spoil changes something in a program, after which nothing may be sound.
func (c *chance) spoil(p *api.Prog) {
	i := c.Intn(len(p.Defs))
	d := p.Defs[i]
	d.Slots = slices.Clone(d.Slots)
	some := id(1 + c.Intn(c.last))
	switch c.Intn(5) {
	case 0:
		d.Kind = c.Intn(8) - 1
	case 1:
		d.Slots = append(d.Slots, api.Slot{ID: some, Type: pick(c, whole, c.typeOf(1), api.Type{Kind: 9}, api.Type{Kind: api.TList})})
	case 2:
		d.ID = pick(c, p.Defs...).ID
	case 3:
		for i := range d.Slots {
			d.Slots[i].Type = api.Type{Kind: api.TDef, Def: pick(c, d.ID, some, pick(c, p.Defs...).ID)}
		}
	default:
		n := c.Intn(len(all(d.Body)))
		d.Body = c.spoiltExpr(d.Body, &n)
	}
	p.Defs[i] = d
}

// spoilt returns an expression in which the node n in preorder is another one.
func (c *chance) spoiltExpr(e api.Expr, n *int) api.Expr {
	e.Kids = slices.Clone(e.Kids)
	if *n--; *n == -1 {
		switch c.Intn(7) {
		case 0:
			e.Kind = c.Intn(15) - 1
		case 1:
			e.N = pick(c, -1, 0, 1, 2, 3, 11, 12, math.MinInt, math.MaxInt)
		case 2:
			e.Ref = pick(c, id(1+c.Intn(c.last)), pick(c, c.p.Defs...).ID)
		case 3:
			e.Kids = append(e.Kids, num(1))
		case 4:
			e.Kids = e.Kids[:len(e.Kids)/2]
		case 5:
			e.Kids = append(e.Kids, e.Kids...)
		case 6:
			e.ID = id(1 + c.Intn(c.last))
		}
	}
	for i := range e.Kids {
		e.Kids[i] = c.spoiltExpr(e.Kids[i], n)
	}
	return e
}

// TestFree has variables that nothing binds.
func TestFree(t *testing.T) {
	f := func(body api.Expr) api.Prog { return prog(within(def(30, api.KFun, whole, body, whole), 1)) }
	minus := func(a, b api.Expr) api.Expr { return op(api.Sub, a, b) }
	for _, x := range []struct {
		a, b api.Expr
		want bool
	}{
		{v(7), v(7), true}, {v(7), v(8), false}, {nth(7, 1), nth(7, 1), true}, {nth(7, 1), nth(7, 2), false}, {v(7), v(3001), false}, {v(3001), nth(3001, 1), false}, {nth(3001, 1), nth(3001, 1), true},
		{let(50, size(v(7)), minus(v(50), num(1))), let(51, size(v(7)), minus(v(50), num(1))), false}, {minus(let(50, size(v(7)), minus(v(50), v(50))), v(50)), minus(let(51, size(v(7)), minus(v(51), v(51))), v(50)), true},
		{minus(let(50, size(v(7)), minus(v(50), v(50))), v(50)), minus(let(50, size(v(7)), minus(v(50), v(50))), v(51)), false},
	} {
		y := pair(f(x.a), f(x.b))
		want := api.ErrCheck
		if x.want {
			want = api.OK
		}
		for _, y := range []two{y, y.back()} {
			if e := y.check(byForms); e != want {
				t.Errorf("P15.3: of %s and %s Check of normal forms returns the error %d, not %d", show(x.a), show(x.b), e, want)
			}
		}
	}
}
