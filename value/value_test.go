package value_test

import (
	"math"
	"reflect"
	"slices"
	"strings"
	"testing"

	"splicery/api"
	"splicery/value"
)

const (
	most   = api.MaxInt
	levels = 1 << 16 // of nesting, for which the document promises results
)

// Types.
var (
	tInt  = api.Type{}
	tBool = api.Type{Kind: api.TBool}
)

// listOf returns the type of lists of a type, or of lists of these, and so on.
func listOf(t api.Type, depth int) api.Type {
	for range depth {
		t = api.Type{Kind: api.TList, Kids: []api.Type{t}}
	}
	return t
}

// typeOf returns the type that a definition of town is.
func typeOf(name string) api.Type {
	i := slices.Index(names(), name)
	if i < 0 {
		panic(name)
	}
	return api.Type{Kind: api.TDef, Def: idOf(i)}
}

// idOf returns the ID of a definition of town.
func idOf(i int) api.ID { return api.ID{Shop: 1, Seq: 2, Index: i} }

// names are those of the definitions of town.
func names() []string {
	return strings.Fields("Point Shape Unit Never Loop Chain Tree Bad Half Wide Rich fun on test conv odd Pair Deep Broad Late Blocked")
}

// town returns a program with definitions of all kinds, sound and other ones.
func town() api.Prog {
	slots := map[string][]api.Type{
		"Point":   {tInt, tInt},
		"Shape":   {tInt, typeOf("Point")},
		"Unit":    {},
		"Never":   {},
		"Loop":    {typeOf("Loop")},
		"Chain":   {tInt, typeOf("Chain")},
		"Tree":    {tInt, listOf(typeOf("Tree"), 1)},
		"Bad":     {tInt, listOf(tInt, api.MaxDepth)},
		"Half":    {tInt, typeOf("fun")},
		"Wide":    slices.Repeat([]api.Type{tInt}, 255),
		"Rich":    slices.Repeat([]api.Type{tBool}, 256),
		"Pair":    {listOf(tInt, 1), listOf(tBool, 1)},
		"Deep":    {typeOf("Chain"), typeOf("Tree"), tBool},
		"Broad":   append(slices.Repeat([]api.Type{tInt}, 255), typeOf("fun")),
		"Late":    append(slices.Repeat([]api.Type{tInt}, 255), typeOf("Never")),
		"Blocked": {typeOf("Never"), tInt},
		"fun":     {tInt},
	}
	kinds := map[string]int{
		"Shape": api.KCase, "Never": api.KCase, "Chain": api.KCase, "Half": api.KCase, "fun": api.KFun, "on": api.KOn,
		"test": api.KTest, "conv": api.KConv, "odd": -1, "Blocked": api.KCase,
	}
	var p api.Prog
	for i, name := range names() {
		d := api.Def{ID: idOf(i), Kind: kinds[name], Name: name}
		for k, t := range slots[name] {
			d.Slots = append(d.Slots, api.Slot{ID: api.ID{Shop: 2, Seq: i, Index: k}, Type: t, Place: 7 - k})
		}
		p.Defs = append(p.Defs, d)
	}
	return p
}

// Values.
func num(n int) api.Value                     { return api.Value{Kind: api.VInt, N: n} }
func truth(n int) api.Value                   { return api.Value{Kind: api.VBool, N: n} }
func rec(kids ...api.Value) api.Value         { return api.Value{Kind: api.VRec, Kids: kids} }
func one(n int, kids ...api.Value) api.Value  { return api.Value{Kind: api.VCase, N: n, Kids: kids} }
func list(kids ...api.Value) api.Value        { return api.Value{Kind: api.VList, Kids: kids} }
func many(n int, v api.Value) api.Value       { return list(slices.Repeat([]api.Value{v}, n)...) }
func odd(k, n int, l ...api.Value) api.Value  { return api.Value{Kind: k, N: n, Kids: l} }
func leaf(n int, kids ...api.Value) api.Value { return rec(num(n), list(kids...)) } // of Tree

// nested returns a value inside of so many cases 1, or inside of lists.
func nested(kind, n, depth int, v api.Value) api.Value {
	for range depth {
		v = api.Value{Kind: kind, N: n, Kids: []api.Value{v}}
	}
	return v
}

func TestDef(t *testing.T) {
	p := town()
	for i, name := range names() {
		if d, ok := value.Def(p, idOf(i)); !ok || !reflect.DeepEqual(d, p.Defs[i]) {
			t.Errorf("P4.1: Def of %s returns %v, %t", name, d, ok)
		}
	}
	for _, id := range []api.ID{{}, {Shop: 1, Seq: 2, Index: -1}, {Shop: 1, Seq: 2, Index: len(p.Defs)}, {Shop: 2, Seq: 2}, {Shop: 1, Seq: 3}, {Shop: -1, Seq: math.MinInt, Index: math.MaxInt}} {
		if d, ok := value.Def(p, id); ok || !reflect.DeepEqual(d, api.Def{}) {
			t.Errorf("P4.1: Def of %v returns %v, %t", id, d, ok)
		}
		if d, ok := value.Def(api.Prog{}, id); ok || !reflect.DeepEqual(d, api.Def{}) {
			t.Errorf("P4.1: Def of %v in no program returns %v, %t", id, d, ok)
		}
	}
	modules := api.Prog{Mods: []api.Mod{{ID: idOf(3), Name: "m"}}}
	if d, ok := value.Def(modules, idOf(3)); ok || !reflect.DeepEqual(d, api.Def{}) {
		t.Errorf("P4.1: Def of a module returns %v, %t", d, ok)
	}
}

// TestDefTwice has programs with definitions of the same ID, also the zero ID.
func TestDefTwice(t *testing.T) {
	for _, id := range []api.ID{{}, idOf(1), {Shop: -1, Seq: -2, Index: -3}} {
		p := api.Prog{Defs: []api.Def{
			{ID: api.ID{Shop: 5}, Name: "other"}, {ID: id, Name: "first", Kind: api.KCase}, {ID: id, Name: "second", Kind: api.KFun}, {ID: id},
		}}
		if d, ok := value.Def(p, id); !ok || d.Name != "first" || d.Kind != api.KCase {
			t.Errorf("P4.1: Def of %v returns %v, %t", id, d, ok)
		}
	}
}

// full returns a program with a definition that has everything a definition can have, where lists share memory.
func full() api.Prog {
	kids := []api.Type{listOf(tInt, 2), tBool}
	shared := api.Type{Kind: api.TList, Kids: kids}
	words := []string{"a", "b", "c"}
	node := api.Expr{Kind: api.NLet, Type: shared, Names: words, Kids: []api.Expr{{N: 3, Type: shared, Names: words[:1]}, {N: 4}}}
	d := api.Def{
		ID: idOf(1), Kind: api.KFun, Mod: idOf(0), Name: "f", Result: shared, Place: 2, Layout: words,
		Slots: []api.Slot{{ID: idOf(2), Name: "s", Type: shared, Most: 1}, {Type: shared, Place: 1}},
		Body:  api.Expr{ID: idOf(3), Kind: api.NIf, Type: shared, Names: words, Kids: []api.Expr{node, node}},
	}
	return api.Prog{Defs: []api.Def{{Name: "g"}, d, d}}
}

// lists calls f with each list in x that has elements, after those inside of it.
func lists(x reflect.Value, f func(l reflect.Value)) {
	switch x.Kind() {
	case reflect.Struct:
		for i := range x.NumField() {
			lists(x.Field(i), f)
		}
	case reflect.Slice:
		for i := range x.Len() {
			lists(x.Index(i), f)
		}
		if x.Len() > 0 {
			f(x)
		}
	}
}

// disjoint checks that no two lists of some results share memory.
func disjoint(t *testing.T, what string, results ...any) {
	t.Helper()
	seen := map[uintptr]bool{}
	for _, x := range results {
		lists(reflect.ValueOf(x), func(l reflect.Value) {
			size := l.Type().Elem().Size()
			for i := range uintptr(l.Cap()) {
				if at := l.Pointer() + i*size; seen[at] {
					t.Fatalf("rules: %s: two lists share memory", what)
				} else {
					seen[at] = true
				}
			}
		})
	}
}

func TestDefIsNew(t *testing.T) {
	p := full()
	a, _ := value.Def(p, idOf(1))
	b, _ := value.Def(p, idOf(1))
	disjoint(t, "Def", a, b)
	lists(reflect.ValueOf(a), func(l reflect.Value) { l.Index(0).SetZero() })
	if !reflect.DeepEqual(p, full()) || !reflect.DeepEqual(b, full().Defs[1]) {
		t.Error("rules: a program, or another result of Def, changes with a result")
	}
	lists(reflect.ValueOf(p), func(l reflect.Value) { l.Index(0).SetZero() })
	if !reflect.DeepEqual(b, full().Defs[1]) {
		t.Error("rules: a result of Def changes with the program")
	}
}

// TestDefOfDeep has a definition whose body is nested as deep as the document allows.
func TestDefOfDeep(t *testing.T) {
	x := api.Expr{N: levels}
	for i := range levels {
		x = api.Expr{N: levels - 1 - i, Kids: []api.Expr{x}}
	}
	d, ok := value.Def(api.Prog{Defs: []api.Def{{Body: x, Result: listOf(tInt, levels)}}}, api.ID{})
	if !ok || !value.SameType(d.Result, listOf(tInt, levels)) {
		t.Error("P4.1: a deep definition is not found")
	}
	x = d.Body
	for n := range levels {
		if x.N != n || len(x.Kids) != 1 {
			t.Fatalf("P4.1: the node at the depth %d is %d, with %d kids", n, x.N, len(x.Kids))
		}
		x = x.Kids[0]
	}
	if x.N != levels || len(x.Kids) != 0 {
		t.Error("P4.1: the deepest node is another one")
	}
}

// goodTypes are valid in town.
func goodTypes() []api.Type {
	l := []api.Type{tInt, tBool, {Kids: []api.Type{}}, listOf(tInt, 1), listOf(tInt, 23), listOf(tBool, 22), listOf(typeOf("Point"), 23)}
	for i, d := range town().Defs {
		if d.Kind == api.KRec || d.Kind == api.KCase {
			l = append(l, api.Type{Kind: api.TDef, Def: idOf(i)})
		}
	}
	return append(l, listOf(typeOf("Bad"), 1))
}

// badTypes are not valid in town.
func badTypes() []api.Type {
	one, id := []api.Type{tInt}, idOf(0)
	l := []api.Type{
		{Kind: -1}, {Kind: 4}, {Kind: math.MinInt}, {Kind: math.MaxInt},
		{Kids: one}, {Kind: api.TBool, Kids: one}, {Kids: make([]api.Type, 2)},
		{Def: id}, {Kind: api.TBool, Def: id}, {Kind: api.TInt, Def: api.ID{Index: 1}}, {Kind: api.TBool, Def: api.ID{Seq: -1}},
		{Kind: api.TList}, {Kind: api.TList, Kids: []api.Type{tInt, tInt}}, {Kind: api.TList, Def: id, Kids: one}, {Kind: api.TList, Def: id},
		{Kind: api.TList, Kids: []api.Type{{Kind: api.TList}}}, {Kind: api.TList, Kids: []api.Type{{Kind: 9}}},
		{Kind: api.TList, Kids: []api.Type{{Def: id}}},
		{Kind: api.TDef}, {Kind: api.TDef, Def: idOf(-1)}, {Kind: api.TDef, Def: idOf(100)}, {Kind: api.TDef, Def: id, Kids: one},
		listOf(tInt, 24), listOf(tBool, 25), listOf(typeOf("Point"), 24), listOf(tInt, levels),
		listOf(api.Type{Kind: api.TList}, 23),
	}
	for _, name := range []string{"fun", "on", "test", "conv", "odd"} {
		l = append(l, typeOf(name), listOf(typeOf(name), 3))
	}
	return l
}

func TestValidType(t *testing.T) {
	p := town()
	for i, x := range goodTypes() {
		if !value.ValidType(p, x) {
			t.Errorf("P4.1: the type %d is not valid: %.99v", i, x)
		}
	}
	for i, x := range badTypes() {
		if value.ValidType(p, x) {
			t.Errorf("P4.1: the type %d is valid: %.99v", i, x)
		}
	}
	if value.ValidType(api.Prog{}, typeOf("Point")) || !value.ValidType(api.Prog{}, listOf(tBool, 1)) {
		t.Error("P4.1: types without a program")
	}
}

// TestValidTypeOfTwice has definitions with the same ID, of which the first one counts, and one with the zero ID.
func TestValidTypeOfTwice(t *testing.T) {
	for _, id := range []api.ID{{}, idOf(1)} {
		for first := -1; first <= api.KConv+1; first++ {
			for second := -1; second <= api.KConv+1; second++ {
				p := api.Prog{Defs: []api.Def{{ID: id, Kind: first}, {ID: id, Kind: second}}}
				want := first == api.KRec || first == api.KCase
				if got := value.ValidType(p, api.Type{Kind: api.TDef, Def: id}); got != want {
					t.Errorf("P4.1: for the kinds %d and %d, ValidType returns %t", first, second, got)
				}
			}
		}
	}
	p := api.Prog{Defs: []api.Def{{ID: idOf(1), Slots: []api.Slot{{Type: tBool}}}, {ID: idOf(1), Slots: []api.Slot{{}}}}}
	point := api.Type{Kind: api.TDef, Def: idOf(1)}
	if !value.Valid(p, point, rec(truth(1))) || value.Valid(p, point, rec(num(1))) {
		t.Error("P4.2: the first definition with an ID does not count")
	}
	if v, e := value.Zero(p, point); !same(v, rec(truth(0))) || e != api.OK {
		t.Errorf("P4.4: Zero of a definition that is there twice returns %v, %d", v, e)
	}
}

func TestSameType(t *testing.T) {
	types := append(goodTypes(), badTypes()...)
	types = append(types, api.Type{Kind: api.TList, Kids: []api.Type{tBool, tInt}}, api.Type{Kind: api.TList, Kids: []api.Type{tInt, tBool}})
	again := append(goodTypes(), badTypes()...)
	again = append(again, api.Type{Kind: api.TList, Kids: []api.Type{tBool, tInt}}, api.Type{Kind: api.TList, Kids: []api.Type{tInt, tBool}})
	for i, a := range types {
		for j, b := range again {
			// The types 0 and 2 differ in nil and empty Kids only, and these are the same.
			want := i == j || i+j == 2 && i*j == 0
			if got := value.SameType(a, b); got != want {
				t.Errorf("P4.1: SameType of %.99v and %.99v returns %t", a, b, got)
			}
		}
	}
	if value.SameType(listOf(tInt, levels), listOf(tBool, levels)) || value.SameType(listOf(tInt, levels), listOf(tInt, levels-1)) {
		t.Error("P4.1: SameType of deep types that differ returns true")
	}
}

// valid is a type with a value and what Valid says of them.
type valid struct {
	t    api.Type
	v    api.Value
	want bool
}

// checkValid tests rows of a table with the program town.
func checkValid(t *testing.T, rows []valid) {
	t.Helper()
	p := town()
	for i, x := range rows {
		if got := value.Valid(p, x.t, x.v); got != x.want {
			t.Errorf("P4.2: row %d: Valid of %.99v and %.99v returns %t", i, x.t, x.v, got)
		}
		if got := validByRule(p, x.t, x.v); got != x.want {
			t.Errorf("P4.2: row %d: the rule for %.99v and %.99v says %t", i, x.t, x.v, got)
		}
	}
}

func TestValidOfPlainTypes(t *testing.T) {
	var rows []valid
	for _, n := range []int{0, 1, -1, most, -most, most - 1, 1 - most} {
		rows = append(rows, valid{tInt, num(n), true}, valid{listOf(tInt, 1), list(num(0), num(n)), true})
	}
	for _, n := range []int{most + 1, -most - 1, math.MaxInt, math.MinInt} {
		rows = append(rows, valid{tInt, num(n), false}, valid{listOf(tInt, 1), list(num(0), num(n)), false})
	}
	for _, n := range []int{-1, 0, 1, 2, math.MaxInt, math.MinInt} {
		rows = append(rows, valid{tBool, truth(n), n == 0 || n == 1}, valid{listOf(tBool, 1), list(truth(n)), n == 0 || n == 1})
		rows = append(rows, valid{listOf(tInt, 1), odd(api.VList, n), n == 0})
	}
	for k := -1; k <= api.VList+1; k++ {
		rows = append(rows, valid{tInt, odd(k, 0), k == api.VInt}, valid{tBool, odd(k, 0), k == api.VBool})
		rows = append(rows, valid{listOf(tInt, 1), odd(k, 0), k == api.VList}, valid{typeOf("Unit"), odd(k, 0), k == api.VRec})
		rows = append(rows, valid{typeOf("Half"), odd(k, 0, num(5)), k == api.VCase})
		rows = append(rows, valid{tInt, odd(k, 0, num(5)), false}, valid{tBool, odd(k, 0, num(5)), false})
	}
	checkValid(t, append(rows, []valid{
		{tInt, odd(api.VInt, 0, []api.Value{}...), true},
		{listOf(tInt, 1), list(num(1), truth(0)), false},
		{listOf(tInt, 1), list(truth(0), num(1)), false},
		{listOf(tInt, 2), list(num(1)), false},
		{listOf(tInt, 2), list(list(), list(num(1)), list()), true},
		{listOf(tInt, 2), list(list(), list(list())), false},
	}...))
}

func TestValidOfDefinitions(t *testing.T) {
	point, shape := typeOf("Point"), typeOf("Shape")
	checkValid(t, []valid{
		{point, rec(num(1), num(2)), true},
		{point, rec(num(1)), false}, {point, rec(), false}, {point, rec(num(1), num(2), num(3)), false},
		{point, rec(num(1), truth(1)), false}, {point, rec(truth(1), num(1)), false}, {point, rec(num(1), num(most+1)), false},
		{point, odd(api.VRec, 1, num(1), num(2)), false}, {point, odd(api.VRec, -1, num(1), num(2)), false},
		{point, list(num(1), num(2)), false}, {point, num(1), false},
		{shape, one(1, rec(num(1), num(2))), true}, {shape, one(1, num(1)), false},
		{shape, one(0, num(1)), true}, {shape, one(0, rec(num(1), num(2))), false},
		{shape, one(0), false}, {shape, one(0, num(1), num(1)), false},
		{shape, one(2, num(1)), false}, {shape, one(-1, num(1)), false}, {shape, one(math.MinInt, num(1)), false}, {shape, one(math.MaxInt, num(1)), false},
		{shape, one(7, num(1)), false}, {shape, one(6, rec(num(1), num(2))), false}, // the Places of its slots
		{typeOf("Unit"), rec(), true}, {typeOf("Unit"), rec(num(0)), false},
		{typeOf("Never"), one(0), false}, {typeOf("Never"), one(0, num(0)), false}, {typeOf("Never"), rec(), false},
		{listOf(typeOf("Never"), 1), list(), true}, {listOf(typeOf("Never"), 1), list(one(0, num(0))), false},
		{typeOf("Loop"), rec(), false}, {typeOf("Loop"), rec(rec()), false}, {typeOf("Loop"), nested(api.VRec, 0, 300, rec()), false},
		{typeOf("Tree"), leaf(1), true}, {typeOf("Tree"), leaf(1, leaf(2), leaf(3, leaf(4))), true}, {typeOf("Tree"), leaf(1, leaf(2), num(3)), false},
		{typeOf("Chain"), one(1, one(1, one(0, num(7)))), true}, {typeOf("Chain"), one(1, one(1, num(7))), false},
	})
}

// TestValidOfUnsound has types that are not valid, and those of slots.
func TestValidOfUnsound(t *testing.T) {
	deepest := nested(api.VList, 0, 23, list()) // what the slot of Bad could hold, if its type were valid
	rows := []valid{
		{typeOf("Bad"), rec(num(1), list()), false}, {typeOf("Bad"), rec(num(1), deepest), false}, {typeOf("Bad"), rec(num(1)), false},
		{listOf(typeOf("Bad"), 1), list(), true}, {listOf(typeOf("Bad"), 1), list(rec(num(1), list())), false},
		{typeOf("Half"), one(0, num(1)), true}, {typeOf("Half"), one(1, num(1)), false}, {typeOf("Half"), one(1, rec(num(1))), false},
		{listOf(tInt, 23), list(), true}, {listOf(tInt, 24), list(), false}, {listOf(tInt, levels), list(), false},
	}
	for _, x := range badTypes() {
		for _, v := range []api.Value{num(0), truth(0), rec(), rec(num(0)), one(0, num(0)), list(), list(num(0)), odd(-1, 0), odd(4, 0), odd(9, 0)} {
			rows = append(rows, valid{x, v, false})
		}
	}
	checkValid(t, rows)
}

func TestValidOfSizes(t *testing.T) {
	ints, truths := listOf(tInt, 1), listOf(tBool, 1)
	checkValid(t, []valid{
		{ints, many(255, num(1)), true}, {ints, many(256, num(1)), false}, {ints, many(100000, num(1)), false},
		{truths, many(255, truth(1)), true}, {truths, many(256, truth(1)), false},
		{listOf(tInt, 2), list(many(126, num(0)), many(127, num(0))), true},
		{listOf(tInt, 2), list(many(127, num(0)), many(127, num(0))), false},
		{listOf(tInt, 2), list(many(127, num(0)), many(126, num(0))), true},
		{typeOf("Pair"), rec(many(253, num(0)), list()), true}, {typeOf("Pair"), rec(many(252, num(0)), many(1, truth(0))), true},
		{typeOf("Pair"), rec(many(253, num(0)), many(1, truth(0))), false}, {typeOf("Pair"), rec(list(), many(254, truth(0))), false},
		{typeOf("Wide"), rec(many(255, num(0)).Kids...), true}, {typeOf("Rich"), rec(many(256, truth(0)).Kids...), false},
		{listOf(typeOf("Unit"), 1), many(255, rec()), true}, {listOf(typeOf("Unit"), 1), many(256, rec()), false},
		{listOf(typeOf("Half"), 1), many(127, one(0, num(1))), true}, {listOf(typeOf("Half"), 1), many(128, one(0, num(1))), false},
		{ints, list(append(many(255, num(1)).Kids, truth(1))...), false}, {ints, list(append(many(254, num(1)).Kids, truth(1))...), false},
	})
}

func TestValidOfDepths(t *testing.T) {
	chain, tree := typeOf("Chain"), typeOf("Tree")
	trees := func(depth int, v api.Value) api.Value {
		for range depth {
			v = leaf(1, v)
		}
		return v
	}
	checkValid(t, []valid{
		{chain, nested(api.VCase, 1, 22, one(0, num(1))), true}, {chain, nested(api.VCase, 1, 23, one(0, num(1))), false},
		{chain, nested(api.VCase, 1, 24, one(0, num(1))), false}, {chain, nested(api.VCase, 1, levels, one(0, num(1))), false},
		{chain, nested(api.VCase, 1, levels, num(1)), false},
		{tree, trees(11, leaf(1)), true}, {tree, trees(12, leaf(1)), false}, // each takes two levels
		{listOf(chain, 1), list(nested(api.VCase, 1, 21, one(0, num(1)))), true},
		{listOf(chain, 1), list(one(0, num(1)), nested(api.VCase, 1, 22, one(0, num(1)))), false},
		{listOf(tInt, 23), nested(api.VList, 0, 23, num(1)), true}, {listOf(tInt, 23), nested(api.VList, 0, 24, num(1)), false},
		{listOf(tInt, 23), nested(api.VList, 0, 22, list()), true}, {listOf(tInt, 23), nested(api.VList, 0, 23, list()), false},
		{listOf(chain, 23), nested(api.VList, 0, 22, list()), true}, {listOf(chain, 23), nested(api.VList, 0, 23, one(0, num(1))), false},
		{listOf(typeOf("Unit"), 23), nested(api.VList, 0, 23, rec()), true}, {listOf(tree, 22), nested(api.VList, 0, 22, leaf(1)), true},
		{listOf(tree, 23), nested(api.VList, 0, 23, leaf(1)), false},
	})
}

func TestSize(t *testing.T) {
	for _, x := range []struct {
		v    api.Value
		want int
	}{
		{num(0), 1}, {truth(1), 1}, {rec(), 1}, {list(), 1}, {odd(-5, -5), 1},
		{one(0, num(1)), 2}, {list(num(1), list(num(2), num(3))), 5}, {odd(api.VInt, 0, num(1), odd(9, 9, num(3))), 4},
		{many(255, num(1)), 256}, {many(256, num(1)), 257}, {many(1000, many(999, num(0))), 1000001},
		{nested(api.VList, 0, levels, num(1)), levels + 1},
	} {
		if got := value.Size(x.v); got != x.want {
			t.Errorf("P4.3: Size of %.99v is %d, not %d", x.v, got, x.want)
		}
	}
}

func TestWeight(t *testing.T) {
	least := math.MinInt
	for _, x := range []struct {
		v    api.Value
		want int
	}{
		{num(0), 0}, {num(7), 7}, {num(-7), 7}, {num(most), most}, {num(-most), most},
		{num(math.MaxInt), math.MaxInt}, {num(-math.MaxInt), math.MaxInt}, {num(least), least},
		{truth(0), 0}, {truth(1), 1}, {truth(-3), -3}, {truth(least), least},
		{one(1, rec(num(1), num(-2))), 4}, {list(num(3), num(0)), 5},
		{rec(), 0}, {odd(api.VRec, 9, num(-1), truth(1)), 2}, {rec(num(math.MaxInt), num(1)), least}, {rec(num(least), num(least)), 0}, {rec(num(least), num(1)), least + 1},
		{one(5), 5}, {one(-5, num(-5)), 0}, {one(2, num(1), num(-1)), 4}, {one(math.MaxInt, num(2)), least + 1}, {one(least, num(-1)), least + 1},
		{list(), 0}, {list(list(), list()), 2}, {odd(api.VList, 9, num(1)), 2}, {list(num(math.MaxInt)), least}, {list(num(math.MaxInt), num(math.MaxInt)), 0},
		{odd(api.VInt, 3, num(5)), 3}, {odd(api.VBool, 1, num(5)), 1},
		{odd(-1, 3), 0}, {odd(5, 3, num(5)), 0}, {list(odd(5, 3, num(5)), num(1)), 3}, {odd(math.MinInt, 3), 0},
		{many(255, num(-most)), 255 + 255*most},
		{nested(api.VList, 0, levels, num(-1)), levels + 1}, {nested(api.VCase, 2, levels, num(-1)), 2*levels + 1},
	} {
		if got := value.Weight(x.v); got != x.want {
			t.Errorf("P4.3: Weight of %.99v is %d, not %d", x.v, got, x.want)
		}
	}
}

func TestZero(t *testing.T) {
	chain := one(0, num(0))
	for _, x := range []struct {
		t api.Type
		v api.Value
		e api.Errno
	}{
		{tInt, num(0), api.OK}, {tBool, truth(0), api.OK}, {listOf(tInt, 1), list(), api.OK}, {listOf(tInt, 23), list(), api.OK},
		{typeOf("Point"), rec(num(0), num(0)), api.OK}, {typeOf("Shape"), one(0, num(0)), api.OK}, {typeOf("Unit"), rec(), api.OK},
		{typeOf("Chain"), chain, api.OK}, {typeOf("Tree"), leaf(0), api.OK}, {typeOf("Deep"), rec(chain, leaf(0), truth(0)), api.OK},
		{typeOf("Pair"), rec(list(), list()), api.OK}, {typeOf("Half"), one(0, num(0)), api.OK},
		{typeOf("Wide"), rec(many(255, num(0)).Kids...), api.OK},
		{listOf(typeOf("Never"), 1), list(), api.OK}, {listOf(typeOf("Loop"), 1), list(), api.OK}, {listOf(typeOf("Bad"), 1), list(), api.OK},
		{typeOf("Never"), api.Value{}, api.ErrArg}, {typeOf("Blocked"), api.Value{}, api.ErrArg}, {typeOf("Bad"), api.Value{}, api.ErrArg},
		{typeOf("Loop"), api.Value{}, api.ErrLimit}, {typeOf("Rich"), api.Value{}, api.ErrLimit},
		{typeOf("Broad"), api.Value{}, api.ErrArg},  // its 257th node has no valid type
		{typeOf("Late"), api.Value{}, api.ErrLimit}, // its 257th node is a variant without slots
	} {
		if v, e := value.Zero(town(), x.t); !same(v, x.v) || e != x.e {
			t.Errorf("P4.4: Zero of %v returns %.99v, %d, not %.99v, %d", x.t, v, e, x.v, x.e)
		}
	}
	for i, x := range badTypes() {
		if v, e := value.Zero(town(), x); !same(v, api.Value{}) || e != api.ErrArg {
			t.Errorf("P4.4: Zero of the bad type %d returns %v, %d", i, v, e)
		}
	}
	a, _ := value.Zero(town(), typeOf("Deep"))
	b, _ := value.Zero(town(), typeOf("Deep"))
	disjoint(t, "Zero", a, b)
}

// record returns the definition i, a record with slots of these types.
func record(i int, types ...api.Type) api.Def {
	d := api.Def{ID: idOf(i)}
	for _, x := range types {
		d.Slots = append(d.Slots, api.Slot{Type: x})
	}
	return d
}

// TestZeroOfOrders has definitions i whose first slot is the definition i + 1, and others behind it, so that the order of the nodes tells which error is the first one.
func TestZeroOfOrders(t *testing.T) {
	typ := func(i int) api.Type { return api.Type{Kind: api.TDef, Def: idOf(i)} }
	never := api.Def{ID: idOf(99), Kind: api.KCase}
	// chain returns records, each inside of the one before it, so that the node at depth has the type last; behind each stands one with the type rest.
	chain := func(depth int, last, rest api.Type) api.Prog {
		p := api.Prog{Defs: []api.Def{never, record(98)}}
		for i := 1; i < depth; i++ {
			first := typ(i + 1)
			if i == depth-1 {
				first = last
			}
			p.Defs = append(p.Defs, record(i, first, rest))
		}
		return p
	}
	bad, none, unit := typ(1000), typ(99), typ(98)
	for i, x := range []struct {
		depth      int
		last, rest api.Type
		want       api.Errno
	}{
		{24, tInt, tInt, api.OK}, {24, unit, unit, api.OK}, {24, bad, tInt, api.ErrArg}, {24, none, tInt, api.ErrArg}, {24, tInt, bad, api.ErrArg}, {24, tInt, none, api.ErrArg},
		{25, tInt, tInt, api.ErrLimit}, {25, unit, tInt, api.ErrLimit}, {25, bad, tInt, api.ErrArg}, {25, none, tInt, api.ErrLimit}, {25, tInt, bad, api.ErrLimit}, {25, tInt, none, api.ErrLimit},
		{26, bad, tInt, api.ErrLimit}, {26, tInt, bad, api.ErrLimit}, {40, none, none, api.ErrLimit},
	} {
		p := chain(x.depth, x.last, x.rest)
		v, e := value.Zero(p, typ(1))
		if e != x.want || e != api.OK && !same(v, api.Value{}) || e == api.OK && (value.Size(v) != 47 || !value.Valid(p, typ(1), v)) {
			t.Errorf("P4.4: row %d: Zero returns %v, %d, not %d", i, v, e, x.want)
		}
	}
}

// TestZeroOfBranches has records of six slots that grow without end, or up to a limit.
func TestZeroOfBranches(t *testing.T) {
	typ := func(i int) api.Type { return api.Type{Kind: api.TDef, Def: idOf(i)} }
	var p api.Prog
	for i := range 20 {
		p.Defs = append(p.Defs, record(i, slices.Repeat([]api.Type{typ(i + 1)}, 6)...))
	}
	p.Defs = append(p.Defs, record(20, tInt))
	for i, want := range map[int]int{20: 2, 19: 13, 18: 79, 17: 0, 0: 0} {
		v, e := value.Zero(p, typ(i))
		if want > 0 && (e != api.OK || value.Size(v) != want) || want == 0 && (e != api.ErrLimit || !same(v, api.Value{})) {
			t.Errorf("P4.4: Zero of the definition %d returns a value of %d nodes, %d", i, value.Size(v), e)
		}
	}
	for n, want := range map[int]api.Errno{250: api.OK, 253: api.OK, 254: api.ErrLimit, 255: api.ErrLimit} {
		p := api.Prog{Defs: []api.Def{record(1, append([]api.Type{typ(2)}, slices.Repeat([]api.Type{tInt}, n)...)...), record(2, tBool)}}
		if v, e := value.Zero(p, typ(1)); e != want || (e == api.OK) != value.Valid(p, typ(1), v) {
			t.Errorf("P4.4: Zero of a record of %d nodes returns %d", n+3, e)
		}
	}
}
