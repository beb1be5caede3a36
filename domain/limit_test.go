package domain_test

import (
	"math"
	"testing"

	"splicery/api"
)

// limited is a type with the number of its values for a bound, or an error.
type limited struct {
	what string
	t    api.Type
	most int
	want int
	e    api.Errno
}

// check checks that the functions return this.
func (x limited) check(t *testing.T, p api.Prog) {
	t.Helper()
	if x.e != api.OK {
		fails(t, x.what, p, x.t, x.most, x.e)
		return
	}
	hasValues(t, x.what, p, x.t, x.most, x.want)
}

// The numbers of definitions with many values, or with large ones.
const (
	pow11   = free + iota // a record of 11 truths: 2048 values
	pow12                 // of 12 truths: 4096 values
	pow13                 // of 13 truths
	count63               // a variant with 63 values
	count64               // with 64
	count241
	count4095
	count4097 // too many
	nodes126  // a record of 125 units: one value of 126 nodes
	nodes127
	nodes128
	nodes255
	nodes256
	nodes257
	empty256 // a record of 255 units and nothing
	own      // numbers from here on are those of definitions of a test
)

// large returns town with these definitions, and more ones.
func large(more ...api.Def) api.Prog {
	counting := func(n, values int) api.Def { // a variant of records of truths
		d := one(n)
		for bits := 11; bits >= 0; bits-- {
			if values>>bits&1 == 1 {
				d.Slots = append(d.Slots, slot(of(own+100+bits), 0))
			}
		}
		return d
	}
	l := []api.Def{
		rec(pow11, repeat(11, truth)...), rec(pow12, repeat(12, truth)...), rec(pow13, repeat(13, truth)...),
		counting(count63, 63), counting(count64, 64), counting(count241, 241), counting(count4095, 4095),
		one(count4097, of(pow12), of(unit)),
	}
	for bits := range 12 {
		l = append(l, rec(own+100+bits, repeat(bits, truth)...))
	}
	for n, nodes := range map[int]int{nodes126: 126, nodes127: 127, nodes128: 128, nodes255: 255, nodes256: 256, nodes257: 257} {
		l = append(l, rec(n, repeat(nodes-1, of(unit))...))
	}
	l = append(l, rec(empty256, append(repeat(255, of(unit)), of(void))...))
	return town(append(l, more...)...)
}

// TestManyValues has domains of 4096 values, and of more.
func TestManyValues(t *testing.T) {
	nothing, twelve := of(void), of(pow12)
	for i, x := range []struct {
		limited
		kind  int
		types []api.Type
	}{
		{limited{"12 truths", api.Type{}, 0, 4096, api.OK}, api.KRec, repeat(12, truth)},
		{limited{"13 truths", api.Type{}, 0, 0, api.ErrLimit}, api.KRec, repeat(13, truth)},
		{limited{"64 and 64", api.Type{}, 0, 4096, api.OK}, api.KRec, repeat(2, of(count64))},
		{limited{"65 and 63", api.Type{}, 32, 65 * 63, api.OK}, api.KRec, join(repeat(1, whole), repeat(1, of(count63)))},
		{limited{"65 and 64", api.Type{}, 32, 0, api.ErrLimit}, api.KRec, join(repeat(1, whole), repeat(1, of(count64)))},
		{limited{"4096 and one", api.Type{}, 0, 4096, api.OK}, api.KRec, []api.Type{twelve, of(unit), whole}},
		{limited{"one and 4096", api.Type{}, 0, 4096, api.OK}, api.KRec, []api.Type{whole, twelve}},
		{limited{"17 and 241", api.Type{}, 8, 0, api.ErrLimit}, api.KRec, []api.Type{whole, of(count241)}},
		{limited{"17 and 241, then nothing", api.Type{}, 8, 0, api.ErrLimit}, api.KRec, []api.Type{whole, of(count241), nothing}},
		{limited{"17, nothing, then 241", api.Type{}, 8, 0, api.OK}, api.KRec, []api.Type{whole, nothing, of(count241)}},
		{limited{"4097, then nothing", api.Type{}, 0, 0, api.ErrLimit}, api.KRec, []api.Type{of(count4097), nothing}},
		{limited{"nothing, then 4097", api.Type{}, 0, 0, api.ErrLimit}, api.KRec, []api.Type{nothing, of(count4097)}},
		{limited{"4096 twice", api.Type{}, 0, 0, api.ErrLimit}, api.KRec, []api.Type{twelve, twelve}},
		{limited{"13 truths, then nothing", api.Type{}, 0, 0, api.ErrLimit}, api.KRec, append(repeat(13, truth), nothing)},
		{limited{"13 truths, then one value and nothing", api.Type{}, 0, 0, api.ErrLimit}, api.KRec, append(repeat(13, truth), whole, nothing)},
		{limited{"13 truths, nothing, 13 truths", api.Type{}, 0, 0, api.ErrLimit}, api.KRec, join(repeat(13, truth), repeat(1, nothing), repeat(13, truth))},
		{limited{"12 truths, then nothing", api.Type{}, 0, 0, api.OK}, api.KRec, append(repeat(12, truth), nothing)},
		{limited{"12 truths, nothing, a truth", api.Type{}, 0, 0, api.OK}, api.KRec, append(repeat(12, truth), nothing, truth)},
		{limited{"nothing, then 13 truths", api.Type{}, 0, 0, api.OK}, api.KRec, append(repeat(1, nothing), repeat(13, truth)...)},
		{limited{"4096 twice, then nothing", api.Type{}, 0, 0, api.ErrLimit}, api.KRec, []api.Type{twelve, twelve, nothing}},
		{limited{"4096, nothing, 4096", api.Type{}, 0, 0, api.OK}, api.KRec, []api.Type{twelve, nothing, twelve}},
		{limited{"2^60 values", api.Type{}, 0, 0, api.ErrLimit}, api.KRec, repeat(5, twelve)},
		{limited{"2^64 values", api.Type{}, 0, 0, api.ErrLimit}, api.KRec, repeat(64, truth)},
		{limited{"2^200 values", api.Type{}, 0, 0, api.ErrLimit}, api.KRec, repeat(200, truth)},
		{limited{"2^200 values, then nothing", api.Type{}, 0, 0, api.ErrLimit}, api.KRec, append(repeat(200, truth), nothing)},
		{limited{"2048 and 2048", api.Type{}, 0, 4096, api.OK}, api.KCase, repeat(2, of(pow11))},
		{limited{"4096 in one case", api.Type{}, 0, 4096, api.OK}, api.KCase, repeat(1, twelve)},
		{limited{"nothing, 4096 and nothing", api.Type{}, 0, 4096, api.OK}, api.KCase, []api.Type{nothing, twelve, nothing}},
		{limited{"4095 and 1", api.Type{}, 0, 4096, api.OK}, api.KCase, []api.Type{of(count4095), of(unit)}},
		{limited{"4095 and 2", api.Type{}, 0, 0, api.ErrLimit}, api.KCase, []api.Type{of(count4095), truth}},
		{limited{"4096 and 1", api.Type{}, 0, 0, api.ErrLimit}, api.KCase, []api.Type{twelve, of(unit)}},
		{limited{"1 and 4096", api.Type{}, 0, 0, api.ErrLimit}, api.KCase, []api.Type{of(unit), twelve}},
		{limited{"many cases", api.Type{}, 0, 4096, api.OK}, api.KCase, repeat(4096, of(unit))},
		{limited{"too many cases", api.Type{}, 0, 0, api.ErrLimit}, api.KCase, repeat(4097, of(unit))},
		{limited{"many cases of nothing", api.Type{}, 0, 4096, api.OK}, api.KCase, join(repeat(5000, nothing), repeat(2048, truth))},
		{limited{"too many values, then no type", api.Type{}, 0, 0, api.ErrArg}, api.KRec, append(repeat(13, truth), of(none))},
		{limited{"too many cases, then no type", api.Type{}, 0, 0, api.ErrArg}, api.KCase, []api.Type{twelve, twelve, of(none)}},
		{limited{"a record of too many values, then no type", api.Type{}, 0, 0, api.ErrLimit}, api.KRec, []api.Type{of(pow13), of(none)}},
		{limited{"a record of too many values in a case, then no type", api.Type{}, 0, 0, api.ErrLimit}, api.KCase, []api.Type{of(pow13), of(none)}},
		{limited{"no type, then a record of too many values", api.Type{}, 0, 0, api.ErrArg}, api.KRec, []api.Type{of(none), of(pow13)}},
		{limited{"nothing, then a record of too many values", api.Type{}, 0, 0, api.ErrLimit}, api.KRec, []api.Type{nothing, of(pow13)}},
	} {
		x.t = of(own + i)
		x.check(t, large(def(own+i, x.kind, x.types...)))
	}
}

// TestManyLists has lists of which there are many.
func TestManyLists(t *testing.T) {
	p := large()
	for _, x := range []limited{
		{"lists of up to 2 of 63", listOf(of(count63)), 2, 1 + 63 + 63*63, api.OK},
		{"lists of up to 2 of 63", listOf(of(count63)), 64, 1 + 63 + 63*63, api.OK},
		{"lists of up to 2 of 64", listOf(of(count64)), 2, 0, api.ErrLimit},
		{"lists of up to 2 of 63 numbers", listOf(whole), 31, 1 + 63 + 63*63, api.OK},
		{"lists of up to 2 of 65 numbers", listOf(whole), 32, 0, api.ErrLimit},
		{"lists of up to 1 of 64", listOf(of(count64)), 1, 65, api.OK},
		{"lists of up to 1 of 4095", listOf(of(count4095)), 1, 4096, api.OK},
		{"lists of up to 1 of 4096", listOf(of(pow12)), 1, 0, api.ErrLimit},
		{"lists of up to 2 of 4096", listOf(of(pow12)), 2, 0, api.ErrLimit},
		{"empty lists of 4096", listOf(of(pow12)), 0, 1, api.OK},
		{"empty lists of too many", listOf(of(pow13)), 0, 0, api.ErrLimit},
		{"empty lists of 4097", listOf(of(count4097)), 0, 0, api.ErrLimit},
		{"lists of lists of lists of truths", listsOf(truth, 3), 2, 1 + 57 + 57*57, api.OK},
		{"lists of lists of lists of lists of truths", listsOf(truth, 4), 2, 0, api.ErrLimit},
		{"lists of lists of truths", listsOf(truth, 2), 2, 57, api.OK},
		{"lists of lists of units", listsOf(of(unit), 2), 2, 13, api.OK},
		{"lists of lists of lists of units", listsOf(of(unit), 3), 2, 183, api.OK},
		{"lists of lists of lists of lists of units", listsOf(of(unit), 4), 2, 0, api.ErrLimit},
		{"lists of lists of lists of lists of nothing", listsOf(of(void), 4), 2, 183, api.OK},
		{"lists of lists of lists of lists of lists of nothing", listsOf(of(void), 5), 2, 0, api.ErrLimit},
	} {
		x.check(t, p)
	}
}

// TestLargeValues has values of 256 nodes, and of more.
func TestLargeValues(t *testing.T) {
	units := func(n int) []api.Type { return repeat(n, of(unit)) }
	nothing := repeat(1, of(void))
	for i, x := range []struct {
		limited
		kind  int
		types []api.Type
	}{
		{limited{"255 units", api.Type{}, 0, 1, api.OK}, api.KRec, units(255)},
		{limited{"256 units", api.Type{}, 0, 0, api.ErrLimit}, api.KRec, units(256)},
		{limited{"255 numbers", api.Type{}, 0, 1, api.OK}, api.KRec, repeat(255, whole)},
		{limited{"256 numbers", api.Type{}, 0, 0, api.ErrLimit}, api.KRec, repeat(256, whole)},
		{limited{"254 units and a truth", api.Type{}, 0, 2, api.OK}, api.KRec, append(units(254), truth)},
		{limited{"255 units and a truth", api.Type{}, 0, 0, api.ErrLimit}, api.KRec, append(units(255), truth)},
		{limited{"255 units and a list", api.Type{}, 0, 0, api.ErrLimit}, api.KRec, append(units(255), listOf(truth))},
		{limited{"255 units, then nothing", api.Type{}, 0, 0, api.OK}, api.KRec, join(units(255), nothing)},
		{limited{"256 units, then nothing", api.Type{}, 0, 0, api.ErrLimit}, api.KRec, join(units(256), nothing)},
		{limited{"nothing, then 255 units", api.Type{}, 0, 0, api.OK}, api.KRec, join(nothing, units(255))},
		{limited{"nothing, then 256 units", api.Type{}, 0, 0, api.ErrLimit}, api.KRec, join(nothing, units(256))},
		{limited{"100 units, nothing, 155 units", api.Type{}, 0, 0, api.OK}, api.KRec, join(units(100), nothing, units(155))},
		{limited{"100 units, nothing, 156 units", api.Type{}, 0, 0, api.ErrLimit}, api.KRec, join(units(100), nothing, units(156))},
		{limited{"300 times nothing", api.Type{}, 0, 0, api.OK}, api.KRec, repeat(300, of(void))},
		{limited{"255 units and an empty record that would be large", api.Type{}, 0, 0, api.OK}, api.KRec, append(units(255), of(empty256))},
		{limited{"256 units and an empty record that would be large", api.Type{}, 0, 0, api.ErrLimit}, api.KRec, append(units(256), of(empty256))},
		{limited{"an empty record that would be large, and 255 units", api.Type{}, 0, 0, api.OK}, api.KRec, append(repeat(1, of(empty256)), units(255)...)},
		{limited{"255 nodes", api.Type{}, 0, 1, api.OK}, api.KRec, []api.Type{of(nodes255)}},
		{limited{"256 nodes", api.Type{}, 0, 0, api.ErrLimit}, api.KRec, []api.Type{of(nodes256)}},
		{limited{"127 and 128 nodes", api.Type{}, 0, 1, api.OK}, api.KRec, []api.Type{of(nodes127), of(nodes128)}},
		{limited{"128 and 128 nodes", api.Type{}, 0, 0, api.ErrLimit}, api.KRec, []api.Type{of(nodes128), of(nodes128)}},
		{limited{"two lists of up to 63 nodes", api.Type{}, 1, 4, api.OK}, api.KRec, []api.Type{listOf(of(nodes126)), listOf(of(nodes127))}},
		{limited{"two lists of up to 129 nodes", api.Type{}, 1, 0, api.ErrLimit}, api.KRec, []api.Type{listOf(of(nodes127)), listOf(of(nodes127))}},
		{limited{"a case of 255 nodes", api.Type{}, 0, 1, api.OK}, api.KCase, []api.Type{of(nodes255)}},
		{limited{"a case of 256 nodes", api.Type{}, 0, 0, api.ErrLimit}, api.KCase, []api.Type{of(nodes256)}},
		{limited{"a case of 256 nodes behind others", api.Type{}, 0, 0, api.ErrLimit}, api.KCase, []api.Type{truth, of(nodes255), of(nodes256)}},
		{limited{"a case of 256 nodes ahead of others", api.Type{}, 0, 0, api.ErrLimit}, api.KCase, []api.Type{of(nodes256), truth, of(void)}},
		{limited{"cases of 255 nodes", api.Type{}, 0, 4, api.OK}, api.KCase, []api.Type{of(nodes255), of(nodes255), of(void), of(nodes128), of(unit)}},
		{limited{"a case of an empty record that would be large", api.Type{}, 0, 0, api.OK}, api.KCase, []api.Type{of(empty256)}},
		{limited{"such a case behind another one", api.Type{}, 0, 2, api.OK}, api.KCase, []api.Type{truth, of(empty256)}},
		{limited{"too many nodes, then no type", api.Type{}, 0, 0, api.ErrArg}, api.KRec, append(units(256), of(none))},
		{limited{"a case of too many nodes, then no type", api.Type{}, 0, 0, api.ErrArg}, api.KCase, []api.Type{of(nodes256), of(none)}},
		{limited{"a record of too many nodes, then no type", api.Type{}, 0, 0, api.ErrLimit}, api.KRec, []api.Type{of(nodes257), of(none)}},
		{limited{"no type, then a record of too many nodes", api.Type{}, 0, 0, api.ErrArg}, api.KRec, []api.Type{of(none), of(nodes257)}},
	} {
		x.t = of(own + i)
		x.check(t, large(def(own+i, x.kind, x.types...)))
	}
	for _, x := range []limited{
		{"256 nodes", of(nodes256), 64, 1, api.OK},
		{"257 nodes", of(nodes257), 64, 0, api.ErrLimit},
		{"lists of up to 2 of 127 nodes", listOf(of(nodes127)), 2, 3, api.OK},
		{"lists of up to 2 of 128 nodes", listOf(of(nodes128)), 2, 0, api.ErrLimit},
		{"lists of up to 1 of 128 nodes", listOf(of(nodes128)), 1, 2, api.OK},
		{"lists of up to 1 of 255 nodes", listOf(of(nodes255)), 1, 2, api.OK},
		{"lists of up to 1 of 256 nodes", listOf(of(nodes256)), 1, 0, api.ErrLimit},
		{"empty lists of 256 nodes", listOf(of(nodes256)), 0, 1, api.OK},
		{"empty lists of 257 nodes", listOf(of(nodes257)), 0, 0, api.ErrLimit},
		{"lists of empty records that would be large", listOf(of(empty256)), 2, 1, api.OK},
		{"lists of lists of 255 nodes", listsOf(of(nodes255), 2), 1, 0, api.ErrLimit},
	} {
		x.check(t, large())
	}
}

// line returns definitions, each with one slot of the type of the next one, and the last one of a type.
func line(kind, n int, last ...api.Type) []api.Def {
	var l []api.Def
	for i := range n - 1 {
		l = append(l, def(own+i, kind, of(own+i+1)))
	}
	return append(l, def(own+n-1, kind, last...))
}

// TestDepth has types of 24 levels, and of more.
func TestDepth(t *testing.T) {
	lists := func(n int) api.Type { return listsOf(whole, n) }
	for _, x := range []limited{
		{"23 lists", lists(23), 0, 1, api.OK},
		{"23 lists", lists(23), 1, 26, api.OK},
		{"23 lists of truths", listsOf(truth, 23), 64, 0, api.ErrLimit},
		{"24 lists", lists(24), 0, 0, api.ErrArg},
		{"25 lists", lists(25), 1, 0, api.ErrArg},
		{"23 lists of units", listsOf(of(unit), 23), 0, 1, api.OK},
		{"23 lists of singles", listsOf(of(single), 23), 0, 0, api.ErrLimit},
		{"22 lists of singles", listsOf(of(single), 22), 0, 1, api.OK},
		{"23 lists of nothing", listsOf(of(void), 23), 1, 23, api.OK},
	} {
		x.check(t, town())
	}
	for _, kind := range []int{api.KRec, api.KCase} {
		for _, x := range []struct {
			n    int
			last []api.Type
			most int
			want int
			e    api.Errno
		}{
			{23, []api.Type{truth}, 64, 2, api.OK},
			{24, []api.Type{truth}, 0, 0, api.ErrLimit},
			{22, []api.Type{lists(1)}, 1, 4, api.OK},
			{23, []api.Type{lists(1)}, 0, 0, api.ErrLimit},
			{1, []api.Type{lists(22)}, 0, 1, api.OK},
			{1, []api.Type{lists(23)}, 0, 0, api.ErrLimit},
			{1, []api.Type{lists(24)}, 0, 0, api.ErrArg},
			{23, []api.Type{of(unit)}, 0, 1, api.OK},
			{24, []api.Type{of(unit)}, 0, 0, api.ErrLimit},
			{23, []api.Type{of(void)}, 0, 0, api.OK},
			{24, []api.Type{of(void)}, 0, 0, api.ErrLimit},
			{23, []api.Type{of(none)}, 0, 0, api.ErrArg},
			{24, []api.Type{of(none)}, 0, 0, api.ErrArg}, // the level is the 25th one, but no type
			{25, []api.Type{of(none)}, 0, 0, api.ErrLimit},
			{23, []api.Type{of(unit), listOf(of(none))}, 0, 0, api.ErrArg},
			{24, []api.Type{listOf(of(none))}, 0, 0, api.ErrArg},
			{24, []api.Type{whole, of(none)}, 0, 0, api.ErrLimit},
			{24, []api.Type{of(none), whole}, 0, 0, api.ErrArg},
			{23, []api.Type{of(pow12), of(single), of(none)}, 0, 0, api.ErrLimit},
			{23, []api.Type{of(unit), of(none), of(single)}, 0, 0, api.ErrArg},
			{30, []api.Type{truth}, 0, 0, api.ErrLimit},
		} {
			limited{"a line", of(own), x.most, x.want, x.e}.check(t, large(line(kind, x.n, x.last...)...))
		}
	}
	for most := range 3 { // definitions without slots have no level below them
		limited{"24 records", of(own), most, 1, api.OK}.check(t, large(line(api.KRec, 24)...))
		limited{"25 records", of(own), most, 0, api.ErrLimit}.check(t, large(line(api.KRec, 25)...))
		limited{"24 variants", of(own), most, 0, api.OK}.check(t, large(line(api.KCase, 24)...))
		limited{"25 variants", of(own), most, 0, api.ErrLimit}.check(t, large(line(api.KCase, 25)...))
	}
}

// TestTwoDepths has definitions that types reach at several depths, of which only the greatest one is too great.
func TestTwoDepths(t *testing.T) {
	l := line(api.KRec, 22, truth) // examined at the depth 2 the last level is the 24th one, at 3 the 25th one
	top := own + 30
	for what, x := range map[string]struct {
		types []api.Type
		e     api.Errno
	}{
		"2":                   {[]api.Type{of(own)}, api.OK},
		"2 and 2":             {[]api.Type{of(own), of(own)}, api.OK},
		"2 and 3":             {[]api.Type{of(own), of(own + 40)}, api.ErrLimit},
		"3 and 2":             {[]api.Type{of(own + 40), of(own)}, api.ErrLimit},
		"2 and 3 with a list": {[]api.Type{of(own), listOf(of(own))}, api.ErrLimit},
		"3 and 3":             {[]api.Type{of(own + 1), of(own + 41)}, api.OK},
	} {
		p := large(append(l, rec(top, x.types...), rec(own+40, of(own)), rec(own+41, of(own+1)))...)
		limited{"depths " + what, of(top), 0, 1 << len(x.types), x.e}.check(t, p)
		two := []api.Slot{slot(of(own+1), 0), slot(of(top), 0)} // the second one begins with the depth 1 again
		if x.e != api.OK {
			failsAll(t, "depths "+what, p, two, x.e)
			continue
		}
		hasInputs(t, "depths "+what, p, two, 2<<len(x.types))
	}
}

// TestLoops has types that contain themselves.
func TestLoops(t *testing.T) {
	noType := api.Type{Kind: api.TBool, Def: id(point)}
	p := large(
		rec(own, of(own), noType),
		rec(own+1, noType, of(own+1)),
		one(own+2, truth, of(own+2), noType),
		rec(own+3, repeat(6, of(own+3))...),
		one(own+4, repeat(8, of(own+4))...),
		rec(own+5, of(void), of(own+5)),
		one(own+6, of(pow13), of(own+6)),
		rec(own+7, of(own+8), of(own+7)),
		rec(own+8, of(own+7), noType),
		rec(own+9, append(repeat(13, truth), of(own+9))...),
		one(own+10, listOf(of(own+10))),
	)
	for _, most := range []int{0, 1, 2, 64} {
		for n, want := range map[int]api.Errno{
			loop: api.ErrLimit, chain: api.ErrLimit, tree: api.ErrLimit, ping: api.ErrLimit, pong: api.ErrLimit,
			own: api.ErrLimit, own + 1: api.ErrArg, own + 2: api.ErrLimit, own + 3: api.ErrLimit, own + 4: api.ErrLimit,
			own + 5: api.ErrLimit, own + 6: api.ErrLimit, own + 7: api.ErrLimit, own + 8: api.ErrLimit, own + 9: api.ErrLimit, own + 10: api.ErrLimit,
		} {
			for _, x := range []api.Type{of(n), listOf(of(n))} {
				fails(t, "a loop", p, x, most, want)
			}
		}
	}
}

// TestNoTypes has types that are not valid, alone and in others.
func TestNoTypes(t *testing.T) {
	for what, x := range map[string]api.Type{
		"no definition":           of(none),
		"a function":              of(fun),
		"a number with a kid":     {Kids: []api.Type{whole}},
		"a number with an ID":     {Def: id(point)},
		"a truth with a kid":      {Kind: api.TBool, Kids: []api.Type{whole}},
		"a truth with an ID":      {Kind: api.TBool, Def: id(point)},
		"a list without a kid":    {Kind: api.TList},
		"a list with two kids":    {Kind: api.TList, Kids: []api.Type{whole, whole}},
		"a list with an ID":       {Kind: api.TList, Def: id(point), Kids: []api.Type{whole}},
		"a list of a function":    listOf(of(fun)),
		"a list of no definition": listOf(of(none)),
		"a list of such a list":   listOf(listOf(api.Type{Kind: api.TList})),
		"a record with a kid":     {Kind: api.TDef, Def: id(point), Kids: []api.Type{whole}},
		"a type of the kind -1":   {Kind: -1},
		"a type of the kind 4":    {Kind: 4},
		"the kind 4 with a kid":   {Kind: 4, Kids: []api.Type{whole}},
		"a type of a great kind":  {Kind: math.MaxInt, Def: id(point)},
		"a type of a small kind":  {Kind: math.MinInt},
		"a list of 25 levels":     listsOf(truth, 24),
		"a list of 26 levels":     listsOf(truth, 25),
		"25 levels, then nothing": listsOf(of(void), 24),
	} {
		p := large(
			rec(own, x), one(own+1, x), rec(own+2, truth, of(void), x), rec(own+3, of(own)), one(own+4, of(own+2), of(loop)),
			rec(own+5, of(loop), x), rec(own+6, x, of(loop)), one(own+7, of(pow13), x), rec(own+8, of(empty256), of(pow12), of(nodes256), x),
		)
		fails(t, what, p, x, 1, api.ErrArg)
		fails(t, what+" in a list", p, listOf(x), 0, api.ErrArg)
		for i := range 9 {
			want := api.ErrArg
			if i == 5 || i == 7 {
				want = api.ErrLimit // it is in front of it
			}
			fails(t, what+" deeper", p, of(own+i), 0, want)
			fails(t, what+" deeper in a list", p, listOf(of(own+i)), 0, want)
		}
	}
}
