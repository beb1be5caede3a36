package domain_test

import (
	"slices"
	"testing"

	"splicery/api"
	"splicery/domain"
)

// levels is how many levels of nesting, and how many elements, the document promises results for.
const levels = 1 << 16

// TestDeep has types of many levels, which are not valid, and others that lead to many.
func TestDeep(t *testing.T) {
	lists := listsOf(whole, levels)
	strange := whole
	for range levels {
		strange = api.Type{Kind: api.TDef, Def: id(point), Kids: []api.Type{strange}}
	}
	wide := api.Type{Kind: api.TList, Kids: repeat(levels, whole)}
	for _, x := range []api.Type{lists, strange, wide} {
		p := town(rec(free, truth, x), one(free+1, x))
		for _, x := range []api.Type{x, of(free), of(free + 1), listOf(of(free))} {
			fails(t, "a type of many levels", p, x, 1, api.ErrArg)
		}
		failsAll(t, "a type of many levels", p, []api.Slot{slot(whole, 1), slot(x, 1)}, api.ErrArg)
	}
	for _, kind := range []int{api.KRec, api.KCase} {
		p := town(line(kind, levels, truth)...)
		fails(t, "many levels", p, of(own), 0, api.ErrLimit)
		fails(t, "many levels", p, of(own+levels-24), 0, api.ErrLimit)
		hasValues(t, "the last ones of many levels", p, of(own+levels-23), 0, 2)
	}
}

// TestWide has definitions with many slots.
func TestWide(t *testing.T) {
	nothing := repeat(levels, of(void))
	p := town(
		rec(free, nothing...), one(free+1, nothing...),
		rec(free+2, append(slices.Clone(nothing), whole)...), one(free+3, append(slices.Clone(nothing), whole)...),
		rec(free+4, repeat(levels, of(unit))...), one(free+5, repeat(levels, of(unit))...), rec(free+6, repeat(levels, truth)...),
		one(free+7, repeat(4096, of(free+3))...), rec(free+8, repeat(127, of(free+3))...),
		one(free+9, append(repeat(levels, of(free+1)), of(free+3))...),
	)
	for n, want := range map[int]int{0: 0, 1: 0, 2: 0, 3: 1, 4: -1, 5: -1, 6: -1, 7: 4096, 8: 1, 9: 1} {
		x := limited{"many slots", of(free + n), 0, want, api.OK}
		if want < 0 {
			x.e = api.ErrLimit
		}
		x.check(t, p)
	}
	if l, _ := domain.Values(p, of(free+3), 0); len(l) != 1 || l[0].N != levels {
		t.Errorf("P13.1: the only case behind many ones without values is %+v", l)
	}
}

// TestManySlots has many slots.
func TestManySlots(t *testing.T) {
	p := large()
	units, nothing := slots(1, repeat(levels, of(unit))...), slots(1, repeat(levels, of(void))...)
	hasInputs(t, "many units", p, units, 1)
	hasInputs(t, "many units and two truths", p, slices.Concat(slots(1, truth), units, slots(1, truth)), 4)
	hasInputs(t, "many slots without values", p, nothing, 0)
	hasInputs(t, "4096 values, many units and nothing", p, slices.Concat(slots(1, of(pow12)), units, nothing), 0)
	failsAll(t, "many truths", p, slots(1, repeat(levels, truth)...), api.ErrLimit)
	failsAll(t, "nothing, and no type behind it", p, append(nothing, slot(of(none), 1)), api.ErrArg)
}

// TestManyDefs has many definitions, on which slots, a record and a variant depend.
func TestManyDefs(t *testing.T) {
	var l []api.Def
	var all []api.Type
	for i := range levels {
		l = append(l, rec(own+i))
		all = append(all, of(own+i))
	}
	l[levels-1].Slots = slots(0, truth)
	p := town(append(l, one(free, all[levels-4095:]...), rec(free+1, all[levels-200:]...), one(free+2, all...))...)
	hasInputs(t, "many definitions", p, slots(1, all...), 2)
	hasValues(t, "cases", p, of(free), 1, 4096)
	hasValues(t, "fields", p, of(free+1), 1, 2)
	fails(t, "many cases", p, of(free+2), 1, api.ErrLimit)
}

// TestManyWays has definitions to which very many ways lead, but in which there are few values.
func TestManyWays(t *testing.T) {
	ways := func(kind, n int, of func(i int) api.Type, last api.Def) api.Prog {
		l := []api.Def{}
		for i := range n - 1 {
			l = append(l, def(own+i, kind, repeat(6, of(own+i+1))...))
		}
		last.ID = id(own + n - 1)
		return town(append(l, last)...)
	}
	lists := func(i int) api.Type { return listOf(of(i)) }
	for what, x := range map[string]struct {
		p    api.Prog
		most int
		want int
		e    api.Errno
	}{
		"variants of nothing":       {ways(api.KCase, 24, of, one(0)), 0, 0, api.OK},
		"records of nothing":        {ways(api.KRec, 24, of, one(0)), 64, 0, api.OK},
		"lists of records":          {ways(api.KRec, 12, lists, rec(0, truth)), 0, 1, api.OK},
		"lists of variants":         {ways(api.KCase, 12, lists, rec(0, truth)), 0, 6, api.OK},
		"variants of units":         {ways(api.KCase, 5, of, rec(0)), 0, 6 * 6 * 6 * 6, api.OK},
		"lists of nothing":          {ways(api.KCase, 4, lists, one(0)), 1, 6 * (1 + 6*(1+6)), api.OK},
		"variants of too many ones": {ways(api.KCase, 24, of, rec(0)), 0, 0, api.ErrLimit},
		"variants that are deep":    {ways(api.KCase, 25, of, one(0)), 0, 0, api.ErrLimit},
		"lists that are deep":       {ways(api.KRec, 13, lists, rec(0)), 0, 0, api.ErrLimit},
		"no type":                   {ways(api.KCase, 23, of, one(0, of(void), of(none))), 0, 0, api.ErrArg},
	} {
		limited{what, of(own), x.most, x.want, x.e}.check(t, x.p)
	}
}

// TestUnused has many domains that are large, but of which no value occurs in another one.
func TestUnused(t *testing.T) {
	const n = 4000
	var l []api.Def
	var empty, listed []api.Type
	for i := range n {
		l = append(l, rec(own+2*i, repeat(12, truth)...), rec(own+2*i+1, of(own+2*i), of(void)))
		empty, listed = append(empty, of(own+2*i+1)), append(listed, listOf(of(own+2*i)))
	}
	p := town(append(l, one(free, append(empty, truth)...), one(free+1, listed...))...)
	hasValues(t, "large domains in empty ones", p, of(free), 0, 2)
	hasValues(t, "empty lists of large domains", p, of(free+1), 0, n)
	hasInputs(t, "large domains in empty ones", p, slots(0, append(empty, of(own))...), 0)
}

// TestDeepBefore has lists of values of many levels, and of many values.
func TestDeepBefore(t *testing.T) {
	deep := func(kind int, inner api.Value) api.Value {
		for range levels {
			inner = other(kind, 0, inner)
		}
		return inner
	}
	for kind := range 6 {
		a, b := []api.Value{deep(kind, number(1))}, []api.Value{deep(kind, number(2))}
		if !domain.Before(a, b) || domain.Before(b, a) || domain.Before(a, a) || !domain.Before(a, []api.Value{a[0], number(0)}) {
			t.Errorf("P13.4: values of many levels of the kind %d are not in order", kind)
		}
	}
	a := slices.Repeat([]api.Value{boolean(1)}, levels)
	b := append(slices.Clone(a), boolean(0))
	c := append(slices.Clone(a[1:]), number(-1))
	if !domain.Before(a, b) || !domain.Before(c, a) || !domain.Before(a[1:], a) || domain.Before(b, a) {
		t.Errorf("P13.4: lists of many values are not in order")
	}
	wide := []api.Value{record(b...)}
	if !domain.Before([]api.Value{record(a...)}, wide) || domain.Before(wide, wide) {
		t.Errorf("P13.4: values with many kids are not in order")
	}
}
