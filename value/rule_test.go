package value_test

import (
	"cmp"
	"math"
	"math/rand"
	"reflect"
	"slices"
	"testing"

	"splicery/api"
	"splicery/value"
	"splicery/wire"
)

// flat returns the numbers of a value: Kind, N and the number of Kids of each node, in preorder.
func flat(v api.Value) []int {
	var l []int
	var add func(v api.Value)
	add = func(v api.Value) {
		l = append(l, v.Kind, v.N, len(v.Kids))
		for _, kid := range v.Kids {
			add(kid)
		}
	}
	add(v)
	return l
}

// same reports whether two values are equal.
func same(a, b api.Value) bool { return slices.Equal(flat(a), flat(b)) }

// depth returns the depth of a value.
func depth(v api.Value) int {
	below := 0
	for _, kid := range v.Kids {
		below = max(below, depth(kid))
	}
	return below + 1
}

// typeDepth returns the depth of a type that is not deeper than a few thousand levels, of which only the first kid counts.
func typeDepth(t api.Type) int {
	n := 1
	for ; len(t.Kids) > 0; t = t.Kids[0] {
		n++
	}
	return n
}

// first returns the first definition of a program with an ID.
func first(p api.Prog, id api.ID) (api.Def, bool) {
	i := slices.IndexFunc(p.Defs, func(d api.Def) bool { return d.ID == id })
	if i < 0 {
		return api.Def{}, false
	}
	return p.Defs[i], true
}

// typeByRule reports whether a type is valid, by the words of the chapter.
func typeByRule(p api.Prog, t api.Type) bool {
	if typeDepth(t) > 24 {
		return false
	}
	switch {
	case t.Kind == 0 || t.Kind == 1:
		return len(t.Kids) == 0 && t.Def == api.ID{}
	case t.Kind == 2:
		return len(t.Kids) == 1 && t.Def == api.ID{} && typeByRule(p, t.Kids[0])
	case t.Kind == 3:
		d, ok := first(p, t.Def)
		return ok && len(t.Kids) == 0 && (d.Kind == 0 || d.Kind == 1)
	}
	return false
}

// validByRule reports whether a value is valid for a valid type, by the words of the chapter.
func validByRule(p api.Prog, t api.Type, v api.Value) bool {
	return typeByRule(p, t) && len(flat(v)) <= 3*256 && depth(v) <= 24 && partByRule(p, t, v)
}

// partByRule reports whether a value that is small enough is valid for a type.
func partByRule(p api.Prog, t api.Type, v api.Value) bool {
	if !typeByRule(p, t) {
		return false
	}
	switch t.Kind {
	case api.TInt:
		return v.Kind == 0 && len(v.Kids) == 0 && v.N >= -1<<40 && v.N <= 1<<40
	case api.TBool:
		return v.Kind == 1 && len(v.Kids) == 0 && v.N&1 == v.N
	case api.TList:
		return v.Kind == 4 && v.N == 0 && !slices.ContainsFunc(v.Kids, func(kid api.Value) bool { return !partByRule(p, t.Kids[0], kid) })
	}
	d, _ := first(p, t.Def)
	if d.Kind == api.KCase {
		return v.Kind == 3 && 0 <= v.N && v.N < len(d.Slots) && len(v.Kids) == 1 && partByRule(p, d.Slots[v.N].Type, v.Kids[0])
	}
	return v.Kind == 2 && v.N == 0 && slices.EqualFunc(d.Slots, v.Kids, func(s api.Slot, kid api.Value) bool { return partByRule(p, s.Type, kid) })
}

// zeroByRule returns the zero value of a type, by the words of P4.4: the types of the nodes that are still to be built are on a stack.
func zeroByRule(p api.Prog, t api.Type) (api.Value, api.Errno) {
	type todo struct {
		t     api.Type
		depth int
	}
	stack := []todo{{t, 1}}
	for nodes := 1; len(stack) > 0; nodes++ {
		next := stack[len(stack)-1]
		stack = stack[:len(stack)-1]
		d, _ := first(p, next.t.Def)
		if !typeByRule(p, next.t) {
			return api.Value{}, api.ErrArg
		}
		if nodes == 257 || next.depth > 24 {
			return api.Value{}, api.ErrLimit
		}
		if next.t.Kind != api.TDef {
			continue
		}
		if d.Kind == api.KCase && len(d.Slots) == 0 {
			return api.Value{}, api.ErrArg
		}
		if d.Kind == api.KCase {
			d.Slots = d.Slots[:1]
		}
		for _, s := range slices.Backward(d.Slots) {
			stack = append(stack, todo{s.Type, next.depth + 1})
		}
	}
	return grown(p, t), api.OK
}

// grown returns the zero value of a type that has one.
func grown(p api.Prog, t api.Type) api.Value {
	d, _ := first(p, t.Def)
	switch {
	case t.Kind != api.TDef:
		return api.Value{Kind: []int{0, 1, 4}[t.Kind]}
	case d.Kind == api.KCase:
		return one(0, grown(p, d.Slots[0].Type))
	}
	v := rec()
	for _, s := range d.Slots {
		v.Kids = append(v.Kids, grown(p, s.Type))
	}
	return v
}

// encodeByRule returns the encoding of a value, by the words of P4.5.
func encodeByRule(v api.Value) []byte {
	var b []byte
	for _, n := range flat(v) {
		b = append(b, wire.Int(n)...)
	}
	return b
}

// decodeByRule returns the numbers of the value at the beginning of b, by the words of P4.5: open has for each depth how many nodes are missing.
func decodeByRule(b []byte) ([]int, int, api.Errno) {
	var numbers []int
	used := 0
	for open := []int{1}; len(open) > 0; {
		last := len(open) - 1
		if open[last] == 0 {
			open = open[:last]
			continue
		}
		open[last]--
		if len(numbers) == 3*256 || len(open) > 24 {
			return nil, 0, api.ErrLimit
		}
		for range 3 {
			n, k, e := wire.GetInt(b[used:])
			if e != api.OK {
				return nil, 0, e
			}
			numbers = append(numbers, n)
			used += k
		}
		kids := numbers[len(numbers)-1]
		if kids < 0 {
			return nil, 0, api.ErrForm
		}
		open = append(open, kids)
	}
	return numbers, used, api.OK
}

// maker makes programs, types and values of chance.
type maker struct{ *rand.Rand }

// pick returns one of some numbers.
func (r maker) pick(l ...int) int { return l[r.Intn(len(l))] }

// prog returns a program of a few definitions, whose IDs are not always different ones, most of them types.
func (r maker) prog() api.Prog {
	var p api.Prog
	for range 1 + r.Intn(6) {
		d := api.Def{ID: api.ID{Index: r.Intn(6)}, Kind: r.pick(0, 0, 0, 1, 1, 1, 0, 1, 0, 1, 2, -1)}
		for range r.pick(0, 1, 1, 2, 2, 3, 6) {
			d.Slots = append(d.Slots, api.Slot{Type: r.typ(3), Place: r.Intn(9)})
		}
		p.Defs = append(p.Defs, d)
	}
	return p
}

// typ returns a type, most often one that can be valid.
func (r maker) typ(depth int) api.Type {
	switch n := r.Intn(40); {
	case n < 8:
		return tInt
	case n < 14:
		return tBool
	case n < 30 || depth == 0:
		return api.Type{Kind: api.TDef, Def: api.ID{Index: r.Intn(6)}}
	case n < 38:
		return api.Type{Kind: api.TList, Kids: []api.Type{r.typ(depth - 1)}}
	case n < 39:
		return listOf(tInt, r.pick(22, 23, 24))
	}
	t := api.Type{Kind: r.Intn(6) - 1, Def: api.ID{Index: r.pick(0, 1)}}
	for range r.Intn(3) {
		t.Kids = append(t.Kids, r.typ(depth-1))
	}
	return t
}

// value returns a value, most often one that is valid for the type, where it has one that is not too deep.
func (r maker) value(p api.Prog, t api.Type, depth int) api.Value {
	if depth == 0 || r.Intn(200) == 0 {
		return r.any(2)
	}
	d, _ := first(p, t.Def)
	switch {
	case t.Kind == api.TInt:
		return num(r.pick(0, 1, -1, 5, most, -most, r.Int()>>30))
	case t.Kind == api.TBool:
		return truth(r.Intn(2))
	case t.Kind == api.TList && len(t.Kids) > 0:
		v := list()
		for range r.pick(0, 1, 1, 2, 3, 9) {
			v.Kids = append(v.Kids, r.value(p, t.Kids[0], depth-1))
		}
		return v
	case d.Kind == api.KCase && len(d.Slots) > 0:
		i := r.Intn(len(d.Slots))
		return one(i, r.value(p, d.Slots[i].Type, depth-1))
	}
	v := rec()
	for _, s := range d.Slots {
		v.Kids = append(v.Kids, r.value(p, s.Type, depth-1))
	}
	return v
}

// any returns a value that belongs to no type in particular.
func (r maker) any(depth int) api.Value {
	v := api.Value{Kind: r.pick(0, 1, 2, 3, 4, -1, 5), N: r.pick(0, 0, 1, -1, 2, most, most+1, math.MinInt)}
	if depth > 0 {
		for range r.pick(0, 0, 1, 1, 2, 3) {
			v.Kids = append(v.Kids, r.any(depth-1))
		}
	}
	return v
}

// TestOfChance compares results with those of the rules, and checks what follows from them.
func TestOfChance(t *testing.T) {
	r := maker{rand.New(rand.NewSource(4))}
	seen := map[string]int{}
	for range 30000 {
		p := r.prog()
		x := r.typ(3)
		if got, want := value.ValidType(p, x), typeByRule(p, x); got != want {
			t.Fatalf("P4.1: ValidType of %v in %v returns %t", x, p, got)
		}
		z, e := value.Zero(p, x)
		if want, f := zeroByRule(p, x); !same(z, want) || e != f {
			t.Fatalf("P4.4: Zero of %v in %v returns %v, %d, not %v, %d", x, p, z, e, want, f)
		}
		if e == api.OK && (!value.Valid(p, x, z) || value.Weight(z) != 0) {
			t.Fatalf("P4.7: the zero value of %v in %v is %v", x, p, z)
		}
		v := r.value(p, x, r.pick(3, 5, 8))
		got := value.Valid(p, x, v)
		if got != validByRule(p, x, v) {
			t.Fatalf("P4.2: Valid of %v and %v in %v returns %t", x, v, p, got)
		}
		if got {
			parts(t, p, x, v)
			seen["valid"]++
			if len(flat(v)) > 3*20 {
				seen["large"]++
			}
		}
		seen[[]string{"zero", "bad type", 4: "limit"}[e]]++
	}
	for _, what := range []string{"valid", "large", "zero", "bad type", "limit"} {
		if seen[what] < 100 {
			t.Errorf("the cases of chance have %q only %d times", what, seen[what])
		}
	}
}

// parts checks what follows from the validity of a value.
func parts(t *testing.T, p api.Prog, x api.Type, v api.Value) {
	t.Helper()
	if value.Weight(v) < 0 {
		t.Fatalf("P4.7: the Weight of %v is %d", v, value.Weight(v))
	}
	d, _ := first(p, x.Def)
	for i, kid := range v.Kids {
		var place api.Type
		switch v.Kind {
		case api.VList:
			place = x.Kids[0]
		case api.VRec:
			place = d.Slots[i].Type
		case api.VCase:
			place = d.Slots[v.N].Type
		}
		if !value.Valid(p, place, kid) {
			t.Fatalf("P4.9: the kid %d of %v is not valid", i, v)
		}
	}
	if n := len(v.Kids); v.Kind == api.VList && n > 0 && !value.Valid(p, x, list(v.Kids[:n-1]...)) {
		t.Fatalf("P4.9: %v is not valid without its last element", v)
	}
	if b := value.Encode(v); !decodes(b, v, len(b)) {
		t.Fatalf("P4.8: the encoding of %v is not decoded", v)
	}
}

// TestParts has the greatest valid values.
func TestParts(t *testing.T) {
	p := town()
	parts(t, p, listOf(tInt, 1), many(255, num(-most)))
	parts(t, p, listOf(tInt, 23), nested(api.VList, 0, 23, num(most)))
	parts(t, p, typeOf("Chain"), nested(api.VCase, 1, 22, one(0, num(1))))
	parts(t, p, typeOf("Wide"), rec(many(255, num(most)).Kids...))
	parts(t, p, listOf(typeOf("Half"), 1), many(127, one(0, num(1))))
}

// ordered are different values, in their order.
func ordered() []api.Value {
	return []api.Value{
		odd(math.MinInt, 0), odd(-2, math.MaxInt), odd(-1, math.MinInt), odd(-1, 5, num(1)),
		num(math.MinInt), num(-most), num(-1), num(0), odd(0, 0, num(-1)), odd(0, 0, num(0)), odd(0, 0, num(-5), num(-5)), num(1), num(2), num(most), num(math.MaxInt),
		truth(-1), truth(0), truth(1), truth(2),
		odd(api.VRec, -1, num(9), num(9), num(9)), rec(), rec(num(9)), rec(truth(0)), rec(rec()), rec(num(1), num(2)), rec(num(1), num(3)), rec(num(2), num(-3)), odd(api.VRec, 1),
		one(-1, num(0)), one(0), one(0, num(1)), one(0, list()), one(0, num(1), num(1)), one(1, num(-1)), one(1, num(0)), one(2),
		list(), list(num(9)), list(truth(0)), list(list(num(9), num(9))), list(list(num(1), num(1), num(1))),
		list(num(1), num(1)), list(num(1), num(2)), list(num(1), list()), list(list(num(1), num(1)), num(1)), list(list(num(1), num(1)), num(2)),
		list(list(num(1), num(2)), num(0)), many(3, num(-1)), many(200, num(0)), odd(api.VList, 1), odd(5, -1, num(7)), odd(5, -1, truth(7)), odd(math.MaxInt, 0),
	}
}

func TestCompare(t *testing.T) {
	l, again := ordered(), ordered()
	for i, a := range l {
		for j, b := range again {
			if got := value.Compare(a, b); got != cmp.Compare(i, j) {
				t.Errorf("P4.3: Compare of %.99v and %.99v returns %d", a, b, got)
			}
		}
	}
	for _, x := range []struct {
		a, b api.Value
		want int
	}{
		{num(2), truth(1), -1}, {num(9), list(num(1), num(1)), -1}, {list(num(9)), list(num(1), num(1)), -1},
		{api.Value{Kids: []api.Value{}}, api.Value{}, 0},
		{nested(api.VList, 0, levels, num(1)), nested(api.VList, 0, levels, num(1)), 0},
		{nested(api.VList, 0, levels, num(1)), nested(api.VList, 0, levels, num(2)), -1},
		{nested(api.VList, 0, levels, num(1)), nested(api.VList, 0, levels-1, num(2)), 1},
	} {
		if got := value.Compare(x.a, x.b); got != x.want {
			t.Errorf("P4.3: Compare of %.99v and %.99v returns %d, not %d", x.a, x.b, got, x.want)
		}
		if got := value.Compare(x.b, x.a); got != -x.want {
			t.Errorf("P4.3: Compare of %.99v and %.99v returns %d, not %d", x.b, x.a, got, -x.want)
		}
	}
}

// TestOrder checks that Compare is a total order on values of chance.
func TestOrder(t *testing.T) {
	r := maker{rand.New(rand.NewSource(5))}
	var l []api.Value
	for range 90 {
		l = append(l, r.any(2))
	}
	equal := 0
	for _, a := range l {
		for _, b := range l {
			ab := value.Compare(a, b)
			if ab != slices.Compare(flat(a), flat(b)) || ab != -value.Compare(b, a) || (ab == 0) != same(a, b) {
				t.Fatalf("P4.6: Compare of %v and %v returns %d", a, b, ab)
			}
			if ab == 0 {
				equal++
			}
			for _, c := range l {
				if bc := value.Compare(b, c); ab <= 0 && bc <= 0 && value.Compare(a, c) != min(ab, bc) {
					t.Fatalf("P4.6: Compare of %v, %v and %v", a, b, c)
				}
			}
		}
	}
	if equal == len(l) || equal > 10*len(l) {
		t.Errorf("the values of chance have %d equal pairs", equal)
	}
}

// TestArguments checks that no function changes its arguments.
func TestArguments(t *testing.T) {
	p, l := town(), ordered()
	types := append(goodTypes(), badTypes()...)
	b := value.Encode(list(l...))
	kept := slices.Clone(b)
	for _, x := range types {
		for _, v := range l {
			value.Valid(p, x, v)
			value.Size(v)
			value.Weight(v)
			value.Compare(v, l[0])
			value.Encode(v)
		}
		value.ValidType(p, x)
		value.Zero(p, x)
		value.Def(p, x.Def)
		value.SameType(x, types[0])
	}
	value.Decode(b)
	if !reflect.DeepEqual(p, town()) || !reflect.DeepEqual(types, append(goodTypes(), badTypes()...)) {
		t.Error("rules: a program or a type has changed")
	}
	if !reflect.DeepEqual(l, ordered()) || !slices.Equal(b, kept) {
		t.Error("rules: a value, or the bytes of one, have changed")
	}
}
