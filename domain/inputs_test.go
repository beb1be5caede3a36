package domain_test

import (
	"math"
	"slices"
	"strings"
	"testing"

	"splicery/api"
	"splicery/domain"
)

// showInputs returns the text of inputs, which are separated by commas.
func showInputs(l [][]api.Value) string {
	var all []string
	for _, in := range l {
		all = append(all, showAll(in))
	}
	return strings.Join(all, ", ")
}

// TestInputs has slots with a few inputs.
func TestInputs(t *testing.T) {
	p := town()
	for _, x := range []struct {
		slots []api.Slot
		want  string
	}{
		{slots(1, whole), "0, -1, 1"},
		{slots(0, whole), "0"},
		{slots(64, truth), "f, t"},
		{slots(0, of(unit)), "()"},
		{slots(0, whole, truth), "0 f, 0 t"},
		{slots(1, whole, truth), "0 f, -1 f, 0 t, 1 f, -1 t, 1 t"},
		{slots(1, truth, whole), "f 0, f -1, f 1, t 0, t -1, t 1"},
		{slots(0, truth, truth, truth), "f f f, f f t, f t f, t f f, f t t, t f t, t t f, t t t"},
		{[]api.Slot{slot(whole, 0), slot(whole, 2)}, "0 0, 0 -1, 0 1, 0 -2, 0 2"},
		{[]api.Slot{slot(whole, 2), slot(whole, 0)}, "0 0, -1 0, 1 0, -2 0, 2 0"},
		{[]api.Slot{slot(whole, 2), slot(whole, 1)}, "0 0, -1 0, 0 -1, 0 1, 1 0, -2 0, -1 -1, -1 1, 1 -1, 1 1, 2 0, -2 -1, -2 1, 2 -1, 2 1"},
		{[]api.Slot{slot(listOf(truth), 0), slot(listOf(truth), 1)}, "[] [], [] [f], [] [t]"},
		{[]api.Slot{slot(listOf(truth), 1), slot(listOf(truth), 0), slot(of(unit), 3)}, "[] [] (), [f] [] (), [t] [] ()"},
		{[]api.Slot{slot(of(point), 0), slot(of(point), 1)}, "(0 f) (0 f), (0 f) (-1 f), (0 f) (0 t), (0 f) (1 f), (0 t) (0 f), (0 f) (-1 t), (0 f) (1 t), (0 t) (-1 f), (0 t) (0 t), (0 t) (1 f), (0 t) (-1 t), (0 t) (1 t)"},
		{[]api.Slot{slot(of(shape), 0), slot(of(shape), 1)}, "0:0 0:0, 0:0 0:-1, 0:0 0:1, 0:0 1:(0 f), 1:(0 f) 0:0, " +
			"0:0 1:(-1 f), 0:0 1:(0 t), 0:0 1:(1 f), 1:(0 f) 0:-1, 1:(0 f) 0:1, 1:(0 f) 1:(0 f), 1:(0 t) 0:0, " +
			"0:0 1:(-1 t), 0:0 1:(1 t), 1:(0 f) 1:(-1 f), 1:(0 f) 1:(0 t), 1:(0 f) 1:(1 f), 1:(0 t) 0:-1, 1:(0 t) 0:1, 1:(0 t) 1:(0 f), " +
			"1:(0 f) 1:(-1 t), 1:(0 f) 1:(1 t), 1:(0 t) 1:(-1 f), 1:(0 t) 1:(0 t), 1:(0 t) 1:(1 f), 1:(0 t) 1:(-1 t), 1:(0 t) 1:(1 t)"},
		{slots(1, of(lonely), of(single)), "0:f (f), 0:f (t), 0:t (f), 0:t (t)"},
	} {
		l := hasInputs(t, x.want, p, x.slots, strings.Count(x.want, ",")+1)
		if showInputs(l) != x.want {
			t.Errorf("P13.3: the inputs of %v are %s, not %s", x.slots, showInputs(l), x.want)
		}
	}
}

// TestNoInputs has no slots, and slots without inputs.
func TestNoInputs(t *testing.T) {
	p := town(rec(free, of(void), whole))
	for _, p := range []api.Prog{p, {}} {
		for _, l := range [][]api.Slot{nil, {}} {
			hasInputs(t, "no slots", p, l, 1)
		}
	}
	for _, l := range [][]api.Slot{
		slots(1, of(void)), slots(1, of(void), whole), slots(1, whole, of(void), truth), slots(1, whole, of(void)), slots(0, of(void), of(void)),
		slots(1, truth, of(free), of(unit)), slots(0, of(free)),
	} {
		hasInputs(t, "nothing", p, l, 0)
	}
}

// TestSlotErrors has slots that are wrong, in front of and behind others that are.
func TestSlotErrors(t *testing.T) {
	p := large()
	fine, nothing, far := slot(whole, 1), slot(of(void), 1), slot(of(loop), 1)
	no, many, twelve := slot(of(none), 1), slot(of(pow13), 1), slot(of(pow12), 1)
	thirteen := slots(1, repeat(13, truth)...)
	for _, most := range []int{-1, 65, math.MinInt, math.MaxInt, -64, api.MaxInt} {
		wrong := slot(whole, most)
		for _, l := range [][]api.Slot{
			{wrong}, {fine, wrong}, {wrong, fine}, {fine, wrong, fine}, {nothing, wrong}, {wrong, nothing}, {wrong, wrong},
			{wrong, far}, {wrong, many}, {wrong, no}, {no, wrong}, {fine, wrong, far}, {fine, wrong, many},
			{slot(of(loop), most)}, {slot(of(none), most)}, {slot(of(pow13), most)}, {slot(of(void), most)}, {slot(truth, most)}, {slot(of(unit), most)},
			{fine, slot(of(loop), most)}, {slot(of(pow13), most), fine},
			{twelve, wrong}, {wrong, twelve, twelve}, {twelve, wrong, twelve}, {twelve, slot(truth, most)},
			append([]api.Slot{wrong}, thirteen...), append(slices.Clone(thirteen[:12]), slot(truth, most)),
			{nothing, twelve, twelve, wrong}, {twelve, nothing, twelve, wrong},
		} {
			failsAll(t, "a bound that is wrong", p, l, api.ErrArg)
		}
		for _, l := range [][]api.Slot{
			{far, wrong}, {many, wrong}, {fine, far, wrong}, {nothing, far, wrong}, {twelve, twelve, wrong}, {twelve, fine, wrong},
			append(slices.Clone(thirteen), wrong), {far, slot(of(none), most)}, {many, slot(of(loop), most)},
		} {
			failsAll(t, "a bound that is wrong behind something else", p, l, api.ErrLimit)
		}
	}
	for _, l := range [][]api.Slot{{no}, {fine, no}, {no, fine}, {no, far}, {fine, no, many}, {nothing, no}, {twelve, no}, {no, twelve, twelve}, {nothing, twelve, twelve, no}} {
		failsAll(t, "no type", p, l, api.ErrArg)
	}
	for _, l := range [][]api.Slot{{far}, {far, no}, {fine, far}, {far, fine}, {many, no}, {fine, many, no}, {nothing, many}, {many, nothing}, {twelve, far}, {twelve, twelve, no}, {twelve, slot(truth, 0), no}} {
		failsAll(t, "too much", p, l, api.ErrLimit)
	}
}

// TestProducts has slots with 4096 inputs, and with more.
func TestProducts(t *testing.T) {
	p := large(one(own, repeat(120, truth)...), rec(own+1, of(own)))
	truths := func(n int) []api.Slot { return slots(0, repeat(n, truth)...) }
	nothing, some := slots(0, of(void)), slots(0, whole, of(unit), listOf(truth))
	join := slices.Concat[[]api.Slot]
	for what, x := range map[string]struct {
		l    []api.Slot
		want int // -1 stands for ErrLimit
	}{
		"12 truths":                         {truths(12), 4096},
		"13 truths":                         {truths(13), -1},
		"12 truths and slots with one":      {join(some, truths(6), some, truths(6), some), 4096},
		"64 and 64":                         {slots(9, of(count64), of(count64)), 4096},
		"129 and 31":                        {[]api.Slot{slot(whole, 64), slot(whole, 15)}, 129 * 31},
		"31 and 129":                        {[]api.Slot{slot(whole, 15), slot(whole, 64)}, 129 * 31},
		"129 and 33":                        {[]api.Slot{slot(whole, 64), slot(whole, 16)}, -1},
		"33 and 129":                        {[]api.Slot{slot(whole, 16), slot(whole, 64)}, -1},
		"17 and 241":                        {[]api.Slot{slot(whole, 8), slot(of(count241), 0)}, -1},
		"17 and 240":                        {[]api.Slot{slot(whole, 8), slot(of(own+1), 0)}, 17 * 240},
		"4097":                              {slots(0, of(count4097)), -1},
		"4095 and 1":                        {slots(0, of(count4095), whole), 4095},
		"4095 and 2":                        {slots(0, of(count4095), truth), -1},
		"4096":                              {slots(0, of(pow12)), 4096},
		"4096 and 1":                        {slots(0, of(pow12), of(unit)), 4096},
		"4096 and 2":                        {slots(0, of(pow12), truth), -1},
		"2 and 4096":                        {slots(0, truth, of(pow12)), -1},
		"13 truths and nothing":             {join(truths(13), nothing), -1},
		"13 truths and nothing later":       {join(truths(13), some, nothing), -1},
		"13 truths, nothing and 13 truths":  {join(truths(13), nothing, truths(13)), -1},
		"12 truths and nothing":             {join(truths(12), nothing), 0},
		"12 truths, nothing and 12 truths":  {join(truths(12), nothing, truths(12)), 0},
		"nothing and 13 truths":             {join(nothing, truths(13)), 0},
		"1 truth, nothing and 100 truths":   {join(truths(1), nothing, truths(100)), 0},
		"2^64 inputs":                       {truths(64), -1},
		"2^64 inputs at once":               {slots(0, repeat(6, of(pow11))...), -1},
		"2^65 inputs and nothing":           {join(truths(65), nothing), -1},
		"100 slots of one value":            {slots(0, repeat(100, whole)...), 1},
		"values of 256 nodes":               {slots(0, of(nodes256), of(nodes256), of(nodes256), truth), 2}, // it is values that have limits, not inputs
		"the same type for several bounds":  {[]api.Slot{slot(listOf(whole), 0), slot(listOf(whole), 2), slot(listOf(whole), 1), slot(listOf(whole), 1)}, 31 * 4 * 4},
		"the same record for three bounds":  {[]api.Slot{slot(of(point), 3), slot(of(point), 0), slot(of(point), 1)}, 14 * 2 * 6},
		"the same variant for three bounds": {[]api.Slot{slot(of(shape), 1), slot(of(shape), 2), slot(of(shape), 0)}, 9 * 15 * 3},
	} {
		if x.want < 0 {
			failsAll(t, what, p, x.l, api.ErrLimit)
			continue
		}
		hasInputs(t, what, p, x.l, x.want)
	}
}

// TestOther checks that nothing but the Type and the Most of a slot counts.
func TestOther(t *testing.T) {
	p := town()
	l := slots(1, whole, of(shape))
	want := hasInputs(t, "slots", p, l, 27)
	for i := range l {
		l[i].ID, l[i].Name, l[i].Place = id(7), []string{"", "if"}[i], 5-3*i
	}
	p.Mods = []api.Mod{{ID: id(shape), Name: "m"}}
	for i := range p.Defs {
		d := &p.Defs[i]
		d.Name, d.Mod, d.Place, d.Layout, d.Result, d.Body = "", id(i), i%3, []string{"x"}, of(none), api.Expr{Kind: api.NRec, Ref: id(void)}
		for k := range d.Slots {
			d.Slots[k].ID, d.Slots[k].Most, d.Slots[k].Place, d.Slots[k].Name = id(k), 99, k%2, "if"
		}
	}
	for i, in := range hasInputs(t, "slots", p, l, 27) {
		if !sameAll(in, want[i]) {
			t.Errorf("P13.3: with other names, the input %d is %s, not %s", i, showAll(in), showAll(want[i]))
		}
	}
	slices.Reverse(p.Defs)
	for i, in := range hasInputs(t, "slots", p, l, 27) {
		if !sameAll(in, want[i]) {
			t.Errorf("P13.3: with another order of definitions, the input %d is %s, not %s", i, showAll(in), showAll(want[i]))
		}
	}
}

// TestShared has definitions with one ID, of which the first one counts.
func TestShared(t *testing.T) {
	for what, x := range map[string]struct {
		l    []api.Def
		want string
		e    api.Errno
	}{
		"two records":               {[]api.Def{rec(5, truth), rec(5, whole)}, "(f) (t)", api.OK},
		"a record and a variant":    {[]api.Def{rec(5, truth), one(5, truth)}, "(f) (t)", api.OK},
		"a variant and a record":    {[]api.Def{one(5, truth), rec(5, truth)}, "0:f 0:t", api.OK},
		"a function and a record":   {[]api.Def{def(5, api.KFun, truth), rec(5, truth)}, "", api.ErrArg},
		"a record and a function":   {[]api.Def{rec(5, truth), def(5, api.KFun, truth)}, "(f) (t)", api.OK},
		"a loop, then none":         {[]api.Def{rec(5, of(5)), rec(5)}, "", api.ErrLimit},
		"none, then a loop":         {[]api.Def{rec(5), rec(5, of(5))}, "()", api.OK},
		"a kind that there is not":  {[]api.Def{def(5, -1), rec(5)}, "", api.ErrArg},
		"another one that is not":   {[]api.Def{def(5, 6), rec(5)}, "", api.ErrArg},
		"a handler and a record":    {[]api.Def{def(5, api.KOn), rec(5)}, "", api.ErrArg},
		"a test and a record":       {[]api.Def{def(5, api.KTest), rec(5)}, "", api.ErrArg},
		"a converter and a variant": {[]api.Def{def(5, api.KConv), one(5)}, "", api.ErrArg},
	} {
		p := prog(x.l...)
		l, e := domain.Values(p, of(5), 0)
		if showAll(l) != x.want || e != x.e {
			t.Errorf("P13.1: of definitions with one ID (%s) the domain is %s (error %d), not %s (%d)", what, showAll(l), e, x.want, x.e)
		}
	}
	zero := api.Def{Kind: api.KCase, Slots: slots(0, truth, whole)} // its ID is the zero one, which types without a definition have, too
	if l := hasValues(t, "the zero ID", prog(zero), api.Type{Kind: api.TDef}, 0, 3); showAll(l) != "0:f 0:t 1:0" {
		t.Errorf("P13.1: of a definition with the zero ID, the domain is %s", showAll(l))
	}
	if l := hasValues(t, "lists", prog(zero), listsOf(truth, 2), 1, 4); showAll(l) != "[] [[]] [[f]] [[t]]" {
		t.Errorf("P13.1: beside a definition with the zero ID, the lists are %s", showAll(l))
	}
}
