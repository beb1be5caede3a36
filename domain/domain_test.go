package domain_test

import (
	"math"
	"strconv"
	"strings"
	"testing"

	"splicery/api"
	"splicery/domain"
)

// The functions of the package are these.
var (
	_ func(api.Prog, api.Type, int) ([]api.Value, api.Errno) = domain.Values
	_ func(api.Prog, []api.Slot) (int, api.Errno)            = domain.Count
	_ func(api.Prog, []api.Slot) ([][]api.Value, api.Errno)  = domain.Inputs
	_ func(a, b []api.Value) bool                            = domain.Before
)

// id returns an ID for each number from 0 on. Their order is not that of the numbers.
func id(n int) api.ID { return api.ID{Shop: n % 3, Seq: n / 3 % 4, Index: n / 12} }

// Types.

var (
	whole = api.Type{}
	truth = api.Type{Kind: api.TBool}
)

func of(n int) api.Type { return api.Type{Kind: api.TDef, Def: id(n)} }

func listOf(t api.Type) api.Type { return api.Type{Kind: api.TList, Kids: []api.Type{t}} }

// listsOf returns the type of lists of lists, and so on, of a type.
func listsOf(t api.Type, levels int) api.Type {
	for range levels {
		t = listOf(t)
	}
	return t
}

// repeat returns a list with a type so many times.
func repeat(n int, t api.Type) []api.Type {
	var l []api.Type
	for range n {
		l = append(l, t)
	}
	return l
}

// join returns the elements of lists.
func join(l ...[]api.Type) []api.Type {
	var all []api.Type
	for _, x := range l {
		all = append(all, x...)
	}
	return all
}

// Definitions.

// def returns a definition with slots of some types, whose Most and Place do not count.
func def(n, kind int, types ...api.Type) api.Def {
	d := api.Def{ID: id(n), Kind: kind, Name: "d" + strconv.Itoa(n), Place: -n}
	for i, t := range types {
		d.Slots = append(d.Slots, api.Slot{ID: id(1000*n + i), Name: "s", Type: t, Most: 7 - 9*i, Place: -i})
	}
	return d
}

func rec(n int, types ...api.Type) api.Def { return def(n, api.KRec, types...) }

func one(n int, types ...api.Type) api.Def { return def(n, api.KCase, types...) }

func prog(l ...api.Def) api.Prog { return api.Prog{Defs: l} }

// slot returns a slot of a type for a bound.
func slot(t api.Type, most int) api.Slot { return api.Slot{Type: t, Most: most} }

// slots returns slots of types for one bound.
func slots(most int, types ...api.Type) []api.Slot {
	var l []api.Slot
	for _, t := range types {
		l = append(l, slot(t, most))
	}
	return l
}

// The numbers of the definitions of town.
const (
	point  = iota + 1 // the record (Int, Bool)
	shape             // the variant (Int, Point)
	unit              // the record without slots
	void              // the variant without slots
	single            // the record (Bool)
	lonely            // the variant (Bool)
	three             // the record (Bool, Int, Unit)
	loop              // the record (Loop)
	chain             // the variant (Int, Chain)
	tree              // the record (Int, List(Tree))
	ping              // the record (Pong)
	pong              // the variant (List(Ping))
	bad               // the record (Bool, a list of no type)
	fun               // a function, which is no type
	none              // there is no such definition
	free              // numbers from here on are those that a test gives to its own definitions
)

// town returns a program with such definitions, and more ones.
func town(more ...api.Def) api.Prog {
	return prog(append([]api.Def{
		rec(point, whole, truth),
		one(shape, whole, of(point)),
		rec(unit),
		one(void),
		rec(single, truth),
		one(lonely, truth),
		rec(three, truth, whole, of(unit)),
		rec(loop, of(loop)),
		one(chain, whole, of(chain)),
		rec(tree, whole, listOf(of(tree))),
		rec(ping, of(pong)),
		one(pong, listOf(of(ping))),
		rec(bad, truth, api.Type{Kind: api.TList}),
		def(fun, api.KFun, whole),
	}, more...)...)
}

// Texts of values: 3, f and t, records (3 t), cases 0:3, and lists [3 4].

func show(v api.Value) string {
	switch v.Kind {
	case api.VInt:
		return strconv.Itoa(v.N)
	case api.VBool:
		return []string{"f", "t"}[v.N]
	case api.VRec:
		return "(" + showAll(v.Kids) + ")"
	case api.VCase:
		return strconv.Itoa(v.N) + ":" + show(v.Kids[0])
	}
	return "[" + showAll(v.Kids) + "]"
}

func showAll(l []api.Value) string {
	var all []string
	for _, v := range l {
		all = append(all, show(v))
	}
	return strings.Join(all, " ")
}

// same reports whether two values are the same, where nil and empty lists are.
func same(a, b api.Value) bool {
	return a.Kind == b.Kind && a.N == b.N && sameAll(a.Kids, b.Kids)
}

func sameAll(a, b []api.Value) bool {
	if len(a) != len(b) {
		return false
	}
	for i := range a {
		if !same(a[i], b[i]) {
			return false
		}
	}
	return true
}

// fails checks that the three functions return an error, and nothing else.
func fails(t *testing.T, what string, p api.Prog, x api.Type, most int, want api.Errno) {
	t.Helper()
	if l, e := domain.Values(p, x, most); len(l) != 0 || e != want {
		t.Errorf("P13.1: %s: Values for %d returns %d values and the error %d, not %d", what, most, len(l), e, want)
	}
	failsAll(t, what, p, []api.Slot{slot(x, most)}, want)
}

// failsAll checks that the functions for slots return an error, and nothing else.
func failsAll(t *testing.T, what string, p api.Prog, l []api.Slot, want api.Errno) {
	t.Helper()
	if n, e := domain.Count(p, l); n != 0 || e != want {
		t.Errorf("P13.2: %s: Count returns %d and the error %d, not %d", what, n, e, want)
	}
	if l, e := domain.Inputs(p, l); len(l) != 0 || e != want {
		t.Errorf("P13.3: %s: Inputs returns %d inputs and the error %d, not %d", what, len(l), e, want)
	}
}

// hasValues checks the number of values of a domain, and returns them.
func hasValues(t *testing.T, what string, p api.Prog, x api.Type, most, want int) []api.Value {
	t.Helper()
	l, e := domain.Values(p, x, most)
	if len(l) != want || e != api.OK {
		t.Errorf("P13.1: %s: Values for %d returns %d values and the error %d, not %d", what, most, len(l), e, want)
	}
	inputs := hasInputs(t, what, p, []api.Slot{slot(x, most)}, want)
	for i, in := range inputs {
		if len(in) != 1 || i < len(l) && !same(in[0], l[i]) {
			t.Errorf("P13.3: %s: the input %d of one slot for %d is %s", what, i, most, showAll(in))
		}
	}
	return l
}

// hasInputs checks the number of inputs of slots, and returns them.
func hasInputs(t *testing.T, what string, p api.Prog, l []api.Slot, want int) [][]api.Value {
	t.Helper()
	if n, e := domain.Count(p, l); n != want || e != api.OK {
		t.Errorf("P13.2: %s: Count returns %d and the error %d, not %d", what, n, e, want)
	}
	inputs, e := domain.Inputs(p, l)
	if len(inputs) != want || e != api.OK {
		t.Errorf("P13.3: %s: Inputs returns %d inputs and the error %d, not %d", what, len(inputs), e, want)
	}
	for i, in := range inputs {
		if len(in) != len(l) {
			t.Errorf("P13.3: %s: an input has %d values, not %d", what, len(in), len(l))
		}
		if i > 0 && (!domain.Before(inputs[i-1], in) || domain.Before(in, inputs[i-1])) {
			t.Errorf("P13.7: %s: %s stands in front of %s", what, showAll(inputs[i-1]), showAll(in))
		}
	}
	return inputs
}

// TestExamples has the rows of the chapter's examples.
func TestExamples(t *testing.T) {
	p := town()
	for _, x := range []struct {
		t    api.Type
		want string
	}{
		{whole, "0 -1 1"},
		{listOf(whole), "[] [0] [-1] [1]"},
		{of(point), "(0 f) (-1 f) (0 t) (1 f) (-1 t) (1 t)"},
	} {
		if l, e := domain.Values(p, x.t, 1); showAll(l) != x.want || e != api.OK {
			t.Errorf("P13.1: the domain is %s (error %d), not %s", showAll(l), e, x.want)
		}
	}
	if n, e := domain.Count(p, []api.Slot{slot(of(shape), 1)}); n != 9 || e != api.OK {
		t.Errorf("P13.2: the number of shapes is %d (error %d), not 9", n, e)
	}
	if l, e := domain.Values(p, listOf(whole), 64); len(l) != 0 || e != api.ErrLimit {
		t.Errorf("P13.1: there are %d lists, and the error is %d", len(l), e)
	}
}

// TestValues has small domains.
func TestValues(t *testing.T) {
	bools, ints := "[] [f] [t] [f f] [f t] [t f] [t t]", "[] [0] [-1] [1] [0 0] "+
		"[-2] [2] [-1 0] [0 -1] [0 1] [1 0] [-2 0] [-1 -1] [-1 1] [0 -2] [0 2] [1 -1] [1 1] [2 0] "+
		"[-2 -1] [-2 1] [-1 -2] [-1 2] [1 -2] [1 2] [2 -1] [2 1] [-2 -2] [-2 2] [2 -2] [2 2]"
	p := town(
		one(free, of(void), truth), one(free+1, truth, of(void), of(unit)), one(free+2, truth, of(void)),
		one(free+3, of(void)), one(free+4, of(void), of(void), of(void)),
		rec(free+5, of(void), truth), rec(free+6, truth, of(void), whole), rec(free+7, truth, of(void)), rec(free+8, of(void)),
		rec(free+9, truth, truth), one(free+10, of(point), of(unit), whole, truth), rec(free+11, listOf(of(void)), of(lonely)),
	)
	for _, x := range []struct {
		t    api.Type
		want map[int]string
	}{
		{whole, map[int]string{0: "0", 1: "0 -1 1", 2: "0 -1 1 -2 2", 3: "0 -1 1 -2 2 -3 3"}},
		{truth, map[int]string{0: "f t", 1: "f t", 2: "f t", 64: "f t"}},
		{listOf(truth), map[int]string{0: "[]", 1: "[] [f] [t]", 2: bools, 3: bools, 64: bools}},
		{listOf(whole), map[int]string{0: "[]", 1: "[] [0] [-1] [1]", 2: ints}},
		{listsOf(truth, 2), map[int]string{0: "[]", 1: "[] [[]] [[f]] [[t]]"}},
		{of(unit), map[int]string{0: "()", 1: "()", 64: "()"}},
		{of(void), map[int]string{0: "", 1: "", 64: ""}},
		{of(single), map[int]string{0: "(f) (t)", 64: "(f) (t)"}},
		{of(lonely), map[int]string{0: "0:f 0:t", 64: "0:f 0:t"}},
		{of(three), map[int]string{0: "(f 0 ()) (t 0 ())", 1: "(f 0 ()) (f -1 ()) (f 1 ()) (t 0 ()) (t -1 ()) (t 1 ())"}},
		{of(point), map[int]string{0: "(0 f) (0 t)"}},
		{of(shape), map[int]string{
			0: "0:0 1:(0 f) 1:(0 t)",
			1: "0:0 0:-1 0:1 1:(0 f) 1:(-1 f) 1:(0 t) 1:(1 f) 1:(-1 t) 1:(1 t)",
		}},
		{listOf(of(unit)), map[int]string{0: "[]", 1: "[] [()]", 2: "[] [()] [() ()]", 64: "[] [()] [() ()]"}},
		{listOf(of(void)), map[int]string{0: "[]", 1: "[]", 2: "[]", 64: "[]"}},
		{listsOf(of(void), 2), map[int]string{0: "[]", 1: "[] [[]]", 2: "[] [[]] [[] []]"}},
		{of(free), map[int]string{0: "1:f 1:t", 9: "1:f 1:t"}},
		{of(free + 1), map[int]string{0: "0:f 0:t 2:()"}},
		{of(free + 2), map[int]string{0: "0:f 0:t"}},
		{of(free + 3), map[int]string{0: "", 64: ""}},
		{of(free + 4), map[int]string{0: "", 64: ""}},
		{of(free + 5), map[int]string{0: "", 64: ""}},
		{of(free + 6), map[int]string{0: "", 64: ""}},
		{of(free + 7), map[int]string{0: "", 64: ""}},
		{of(free + 8), map[int]string{0: "", 64: ""}},
		{of(free + 9), map[int]string{0: "(f f) (f t) (t f) (t t)"}},
		{of(free + 10), map[int]string{0: "0:(0 f) 0:(0 t) 1:() 2:0 3:f 3:t", 1: "0:(0 f) 0:(-1 f) 0:(0 t) 0:(1 f) 1:() 0:(-1 t) 0:(1 t) 2:0 2:-1 2:1 3:f 3:t"}},
		{of(free + 11), map[int]string{0: "([] 0:f) ([] 0:t)", 2: "([] 0:f) ([] 0:t)"}},
	} {
		for most, want := range x.want {
			l, e := domain.Values(p, x.t, most)
			if showAll(l) != want || e != api.OK {
				t.Errorf("P13.1: the domain of %v for %d is %s (error %d), not %s", x.t, most, showAll(l), e, want)
			}
			hasValues(t, want, p, x.t, most, len(l))
		}
	}
}

// TestBounds has bounds that are possible, and others.
func TestBounds(t *testing.T) {
	p := town()
	for most := range 65 {
		l := hasValues(t, "numbers", p, whole, most, 2*most+1)
		for i, v := range l {
			want := (i + 1) / 2 // 0 -1 1 -2 2
			if i%2 == 1 {
				want = -want
			}
			if !same(v, api.Value{Kind: api.VInt, N: want}) {
				t.Errorf("P13.1: the number %d for %d is %+v, not %d", i, most, v, want)
			}
		}
	}
	for _, most := range []int{-1, -2, 65, 66, 100, -64, api.MaxInt, math.MinInt, math.MinInt + 1, math.MaxInt, 1 << 32, 1<<32 + 1} {
		for what, x := range map[string]api.Type{
			"numbers": whole, "truths": truth, "lists": listOf(whole), "units": of(unit), "nothing": of(void), "points": of(point),
			"loops": of(loop), "no type": of(none), "a function": of(fun), "many values": listsOf(truth, 6),
		} {
			fails(t, what, p, x, most, api.ErrArg)
		}
	}
}

// TestKinds checks that the kinds, the numbers and the kids of values are right, which texts do not tell.
func TestKinds(t *testing.T) {
	p := town()
	l, _ := domain.Values(p, of(shape), 0)
	want := []api.Value{
		{Kind: api.VCase, Kids: []api.Value{{Kind: api.VInt}}},
		{Kind: api.VCase, N: 1, Kids: []api.Value{{Kind: api.VRec, Kids: []api.Value{{Kind: api.VInt}, {Kind: api.VBool}}}}},
		{Kind: api.VCase, N: 1, Kids: []api.Value{{Kind: api.VRec, Kids: []api.Value{{Kind: api.VInt}, {Kind: api.VBool, N: 1}}}}},
	}
	if !sameAll(l, want) {
		t.Errorf("P13.1: the shapes are %+v, not %+v", l, want)
	}
	l, _ = domain.Values(p, listOf(truth), 1)
	want = []api.Value{{Kind: api.VList}, {Kind: api.VList, Kids: []api.Value{{Kind: api.VBool}}}, {Kind: api.VList, Kids: []api.Value{{Kind: api.VBool, N: 1}}}}
	if !sameAll(l, want) {
		t.Errorf("P13.1: the lists are %+v, not %+v", l, want)
	}
	if l, _ = domain.Values(p, of(unit), 0); len(l) != 1 || !same(l[0], api.Value{Kind: api.VRec}) {
		t.Errorf("P13.1: the units are %+v", l)
	}
}
