package domain_test

import (
	"math/rand"
	"slices"
	"testing"

	"splicery/api"
	"splicery/check"
	"splicery/domain"
	"splicery/types"
	"splicery/value"
)

// chance makes programs, types and slots of chance.
type chance struct {
	*rand.Rand
	p     api.Prog
	sound bool // whether all types are valid, and definitions have IDs of their own
}

func newChance(seed int, sound bool) *chance {
	c := &chance{Rand: rand.New(rand.NewSource(int64(seed))), sound: sound}
	n := 1 + c.Intn(6)
	for i := range n {
		kind := c.pick(api.KRec, api.KRec, api.KCase)
		if !sound && c.Intn(40) == 0 {
			kind = c.pick(-1, api.KFun, api.KOn, api.KTest, api.KConv, 6)
		}
		var l []api.Type
		count := c.pick(0, 1, 1, 1, 2, 2, 2, 3, 4, 12, 16)
		if i == n-1 && c.Intn(3) == 0 {
			kind, count = api.KCase, 0
		}
		for range count {
			l = append(l, c.typ(i, n, 2))
		}
		d := def(i, kind, l...)
		if !sound && c.Intn(20) == 0 {
			d.ID = id(c.Intn(n))
		}
		c.p.Defs = append(c.p.Defs, d)
	}
	c.Shuffle(n, func(i, k int) { c.p.Defs[i], c.p.Defs[k] = c.p.Defs[k], c.p.Defs[i] })
	return c
}

// pick returns one of some numbers.
func (c *chance) pick(l ...int) int { return l[c.Intn(len(l))] }

// typ returns a type, most often one of definitions from the number i + 1 to n - 1, so that not all types are loops.
func (c *chance) typ(i, n, depth int) api.Type {
	if !c.sound && c.Intn(60) == 0 {
		return c.noType()
	}
	switch c.Intn(9) {
	case 0, 1:
		return truth
	case 2, 3:
		return whole
	case 4:
		if depth > 0 {
			return listOf(c.typ(i, n, depth-1))
		}
	case 5:
		if c.Intn(8) == 0 {
			return of(c.Intn(n))
		}
	default:
		if i+1 < n {
			return of(i + 1 + c.Intn(n-i-1))
		}
	}
	return truth
}

// noType returns a type that is most often not valid.
func (c *chance) noType() api.Type {
	t := api.Type{Kind: c.Intn(6) - 1}
	if c.Intn(2) == 0 {
		t.Def = id(c.Intn(8))
	}
	for range c.Intn(3) {
		t.Kids = append(t.Kids, c.typ(0, 6, 1))
	}
	return t
}

// slot returns a slot.
func (c *chance) slot() api.Slot {
	n := len(c.p.Defs)
	s := slot(c.typ(c.Intn(n+1)-1, n, 2), c.pick(0, 0, 0, 1, 1, 1, 2, 2, 3, 5, 20, 64))
	if !c.sound && c.Intn(40) == 0 {
		s.Most = c.pick(-1, 65, 1000, -1000)
	}
	return s
}

// TestOfChance compares the functions with the rules for programs of chance, of which many are not sound.
func TestOfChance(t *testing.T) {
	seen := map[string]int{}
	for seed := range 1500 {
		c := newChance(seed, seed%4 == 0)
		for range 6 {
			s := c.slot()
			want, e := inputsByRule(c.p, []api.Slot{s})
			l, got := domain.Values(c.p, s.Type, s.Most)
			if got != e || len(l) != len(want) {
				t.Fatalf("P13.1: Values of %+v for %d in %+v returns %d values and the error %d, not %d and %d", s.Type, s.Most, c.p, len(l), got, len(want), e)
			}
			for i, v := range l {
				if !same(v, want[i][0]) {
					t.Fatalf("P13.1: the value %d of %+v for %d in %+v is %s, not %s", i, s.Type, s.Most, c.p, show(v), show(want[i][0]))
				}
			}
			seen["domains "+sizeOf(len(l), e)]++
			c.compareInputs(t, seen)
		}
	}
	for _, what := range []string{"domains", "inputs"} {
		for size, least := range map[string]int{"ErrArg": 300, "ErrLimit": 200, "none": 300, "one": 500, "few": 1000, "many": 50} {
			if n := seen[what+" "+size]; n < least {
				t.Errorf("there were only %d %s (%s) of %v", n, what, size, seen)
			}
		}
	}
}

// sizeOf returns a word for the number of values, or for the error.
func sizeOf(n int, e api.Errno) string {
	switch {
	case e == api.ErrArg:
		return "ErrArg"
	case e == api.ErrLimit:
		return "ErrLimit"
	case n == 0:
		return "none"
	case n == 1:
		return "one"
	case n < 500:
		return "few"
	}
	return "many"
}

// compareInputs compares the inputs of a few slots with the rule.
func (c *chance) compareInputs(t *testing.T, seen map[string]int) {
	t.Helper()
	var l []api.Slot
	for range c.pick(0, 1, 2, 2, 3, 5) {
		l = append(l, c.slot())
	}
	want, e := inputsByRule(c.p, l)
	if n, got := domain.Count(c.p, l); n != len(want) || got != e {
		t.Fatalf("P13.2: Count of %+v in %+v returns %d and the error %d, not %d and %d", l, c.p, n, got, len(want), e)
	}
	inputs, got := domain.Inputs(c.p, l)
	if got != e || !slices.EqualFunc(inputs, want, sameAll) {
		t.Fatalf("P13.3: Inputs of %+v in %+v returns %d inputs and the error %d, not %d and %d", l, c.p, len(inputs), got, len(want), e)
	}
	for i := 1; i < len(inputs); i++ {
		if !domain.Before(inputs[i-1], inputs[i]) || domain.Before(inputs[i], inputs[i-1]) {
			t.Fatalf("P13.7: the inputs %d and %d of %+v in %+v are not in order", i-1, i, l, c.p)
		}
	}
	if len(inputs) > 0 && !slices.ContainsFunc(l, func(s api.Slot) bool { return hasVariant(c.p, s.Type) }) {
		seen["without variants"]++
		if weightByRule(inputs[0]) != 0 {
			t.Fatalf("P13.7: the first input of %+v in %+v is %s", l, c.p, showAll(inputs[0]))
		}
	}
	seen["inputs "+sizeOf(len(inputs), e)]++
}

// hasVariant reports whether a type that is no loop contains a variant.
func hasVariant(p api.Prog, t api.Type) bool {
	parts, isRecord := partsByRule(p, t)
	return t.Kind == api.TDef && !isRecord || slices.ContainsFunc(parts, func(part api.Type) bool { return hasVariant(p, part) })
}

// TestComplete checks that domains have valid values only, none twice, and each valid value whose numbers and lists are within the bound.
func TestComplete(t *testing.T) {
	values := 0
	for seed := range 1500 {
		c := newChance(seed, seed%2 == 0)
		s := c.slot()
		l, e := domain.Values(c.p, s.Type, s.Most)
		if e != api.OK {
			continue
		}
		index := map[string]bool{}
		for _, v := range l {
			if !value.Valid(c.p, s.Type, v) || index[show(v)] {
				t.Fatalf("P13.5: the value %s of %+v for %d in %+v is not valid, or not the only one", show(v), s.Type, s.Most, c.p)
			}
			index[show(v)] = true
		}
		for range 50 {
			v, ok := c.value(s.Type, s.Most)
			if ok && !index[show(v)] {
				t.Fatalf("P13.5: the value %s of %+v is not in the domain for %d in %+v", show(v), s.Type, s.Most, c.p)
			}
			if ok {
				values++
			}
		}
	}
	if values < 20000 {
		t.Errorf("there were only %d values", values)
	}
}

// value returns a value of a type for a bound; false, if the parts that chance chooses have none.
func (c *chance) value(t api.Type, most int) (api.Value, bool) {
	parts, isRecord := partsByRule(c.p, t)
	switch {
	case t.Kind == api.TInt:
		return number(c.Intn(2*most+1) - most), true
	case t.Kind == api.TBool:
		return boolean(c.Intn(2)), true
	case t.Kind == api.TList:
		v, ok := c.values(slices.Repeat(parts, c.Intn(longByRule(most)+1)), most)
		return list(v...), ok
	case isRecord:
		v, ok := c.values(parts, most)
		return record(v...), ok
	case len(parts) == 0:
		return api.Value{}, false
	}
	i := c.Intn(len(parts))
	v, ok := c.value(parts[i], most)
	return variant(i, v), ok
}

// values returns a value of each type.
func (c *chance) values(l []api.Type, most int) ([]api.Value, bool) {
	var all []api.Value
	for _, t := range l {
		v, ok := c.value(t, most)
		if !ok {
			return nil, false
		}
		all = append(all, v)
	}
	return all, true
}

// TestGrowth checks that a domain contains those for lesser bounds, in the same order.
func TestGrowth(t *testing.T) {
	grown, more := 0, 0
	for seed := range 700 {
		c := newChance(seed, seed%2 == 0)
		s := c.slot()
		var last []api.Value
		for most := 64; most >= 0; most-- {
			l, e := domain.Values(c.p, s.Type, most)
			if e == api.ErrLimit && last == nil {
				continue
			}
			if e == api.ErrArg {
				break
			}
			if e != api.OK {
				t.Fatalf("P13.6: Values of %+v in %+v for %d returns the error %d, but none for %d", s.Type, c.p, most, e, most+1)
			}
			at := 0
			for _, v := range last { // those that are not in the lesser domain are left out
				if at < len(l) && same(v, l[at]) {
					at++
				}
			}
			if last != nil && at < len(l) {
				t.Fatalf("P13.6: the value %s of %+v in %+v for %d is not at its place in the domain for %d", show(l[at]), s.Type, c.p, most, most+1)
			}
			grown++
			if len(last) > len(l) {
				more++
			}
			last = append([]api.Value{}, l...)
		}
	}
	if grown < 5000 || more < 1000 {
		t.Errorf("there were only %d domains, and only %d that are larger than another one", grown, more)
	}
}

// literal returns an expression for a value of a type.
func literal(p api.Prog, t api.Type, v api.Value) api.Expr {
	parts, _ := partsByRule(p, t)
	e := api.Expr{ID: id(9999), N: v.N, Ref: t.Def, Kind: []int{api.NInt, api.NBool, api.NRec, api.NCase, api.NList}[v.Kind]}
	if v.Kind == api.VList {
		e.Type = t.Kids[0]
	}
	for i, kid := range v.Kids {
		switch v.Kind {
		case api.VList:
			i = 0
		case api.VCase:
			i = v.N
		}
		e.Kids = append(e.Kids, literal(p, parts[i], kid))
	}
	return e
}

// TestCalls checks that calls with the inputs of a test as literals have their result type, in sound programs of chance.
func TestCalls(t *testing.T) {
	calls, tests := 0, 0
	for seed := range 1500 {
		c := newChance(seed, true)
		var l []api.Slot
		for range 1 + c.Intn(3) {
			l = append(l, c.slot())
		}
		test, fun := def(2000, api.KTest), def(3000, api.KFun)
		for i := range l {
			l[i].ID, l[i].Place = id(2001+i), i
		}
		test.Slots, test.Result, test.Body = l, l[0].Type, api.Expr{ID: id(1999), Kind: api.NVar, Ref: l[0].ID}
		fun.Slots, fun.Result, fun.Body = l, l[0].Type, test.Body
		p := api.Prog{Defs: append(slices.Clone(c.p.Defs), fun, test)}
		if len(check.All(p)) > 0 {
			continue
		}
		inputs, _ := domain.Inputs(p, l)
		tests++
		for i, in := range inputs {
			if i%(1+len(inputs)/20) != 0 {
				continue
			}
			call := api.Expr{ID: id(9998), Kind: api.NCall, Ref: fun.ID}
			for k, v := range in {
				call.Kids = append(call.Kids, literal(p, l[k].Type, v))
			}
			calls++
			if result, at, code := types.Infer(p, nil, call); code != api.OK || !value.SameType(result, fun.Result) {
				t.Fatalf("P13.8: with %s, a call in %+v has the type %+v and the error %d at %v", showAll(in), p, result, code, at)
			}
		}
	}
	if calls < 5000 || tests < 300 {
		t.Errorf("there were only %d calls for %d tests", calls, tests)
	}
}
