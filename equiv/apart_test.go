package equiv_test

import (
	"reflect"
	"testing"

	"splicery/api"
	"splicery/equiv"
)

// span is the memory of a slice, with its capacity.
type span struct {
	from, to uintptr
}

// slicesIn calls a function with each slice in a value.
func slicesIn(v reflect.Value, call func(reflect.Value)) {
	switch v.Kind() {
	case reflect.Slice:
		call(v)
		for i := range v.Len() {
			slicesIn(v.Index(i), call)
		}
	case reflect.Struct:
		for i := range v.NumField() {
			slicesIn(v.Field(i), call)
		}
	}
}

// memory returns the memory of the slices in a value.
func memory(v any) []span {
	var l []span
	slicesIn(reflect.ValueOf(v), func(s reflect.Value) {
		if s.Cap() > 0 && s.Type().Elem().Size() > 0 {
			from := s.Pointer()
			l = append(l, span{from, from + uintptr(s.Cap())*s.Type().Elem().Size()})
		}
	})
	return l
}

// copied returns a value that shares no memory with another one. Its slices have room behind their elements, which nothing may be written into.
func copied(v reflect.Value) reflect.Value {
	x := reflect.New(v.Type()).Elem()
	x.Set(v)
	switch v.Kind() {
	case reflect.Slice:
		if v.IsNil() {
			break
		}
		room := reflect.MakeSlice(v.Type(), v.Len()+3, v.Len()+3)
		for i := range v.Len() {
			room.Index(i).Set(copied(v.Index(i)))
		}
		x.Set(room.Slice(0, v.Len()))
	case reflect.Struct:
		for i := range v.NumField() {
			x.Field(i).Set(copied(v.Field(i)))
		}
	}
	return x
}

// roomIsEmpty reports whether the room behind the elements of all slices in a value is empty.
func roomIsEmpty(v any) bool {
	empty := true
	slicesIn(reflect.ValueOf(v), func(s reflect.Value) {
		all := s.Slice(0, s.Cap())
		for i := s.Len(); i < s.Cap(); i++ {
			empty = empty && all.Index(i).IsZero()
		}
	})
	return empty
}

// arguments are those of Differ, Check or Witness.
type arguments struct {
	P, Q  api.Prog
	A, B  api.ID
	Fuel  int
	Proof equiv.Proof
	Input []api.Value
}

// result is what one of them returns.
type result struct {
	Input   []api.Value
	Proof   equiv.Proof
	Code    api.Errno
	Witness bool
}

func differ(x arguments) result {
	l, proof, e := equiv.Differ(x.P, x.A, x.Q, x.B, x.Fuel)
	return result{Input: l, Proof: proof, Code: e}
}

func checkProof(x arguments) result {
	return result{Code: equiv.Check(x.P, x.A, x.Q, x.B, x.Fuel, x.Proof)}
}

func witness(x arguments) result {
	return result{Witness: equiv.Witness(x.P, x.A, x.Q, x.B, x.Fuel, x.Input)}
}

// apart checks that a call does not change its arguments, that its result shares no memory with them, nor parts of it with each other, and that it is the same again.
func apart(t *testing.T, promise string, args arguments, lists int, call func(x arguments) result) {
	t.Helper()
	own := copied(reflect.ValueOf(args)).Interface().(arguments)
	got := call(own)
	if !reflect.DeepEqual(own, args) || !roomIsEmpty(own) {
		t.Errorf("%s: a call changes its arguments", promise)
	}
	mine, others := memory(got), memory(own)
	if len(mine) != lists {
		t.Errorf("%s: the result %+v has %d lists, not %d", promise, got, len(mine), lists)
	}
	for i, a := range mine {
		for _, b := range append(others, mine[:i]...) {
			if a.from < b.to && b.from < a.to {
				t.Fatalf("%s: the result %+v shares memory", promise, got)
			}
		}
	}
	before := copied(reflect.ValueOf(got)).Interface()
	spoil(got)
	for range 5 { // whatever the order of a map is, and although the result has been changed
		again := call(own)
		if !reflect.DeepEqual(copied(reflect.ValueOf(again)).Interface(), before) {
			t.Errorf("%s: a call with equal arguments has another result", promise)
		}
		spoil(again)
	}
}

// spoil changes all elements of a result.
func spoil(x result) {
	spoilValues(x.Input)
	spoilProof(&x.Proof)
}

func spoilProof(x *equiv.Proof) {
	for i := range x.Kids {
		spoilProof(&x.Kids[i])
	}
	spoilValues(x.Result)
	*x = equiv.Proof{Slot: 77}
}

func spoilValues(l []api.Value) {
	for i := range l {
		spoilValues(l[i].Kids)
		l[i] = api.Value{Kind: 77}
	}
}

// TestApart checks that results are new memory, and that arguments stay.
func TestApart(t *testing.T) {
	a, b, c := v(3001), v(3002), v(3003)
	slots := []api.Type{of(point), listOf(truth), of(tank)}
	with := func(body api.Expr) api.Prog {
		p := prog(append(types(), within(def(30, api.KFun, of(tank), body, slots...), 0, 1, 0), def(31, api.KFun, whole, size(v(3101)), listOf(truth)))...)
		for i := range p.Defs { // so that all lists are there
			p.Defs[i].Layout = []string{"", "# x"}
		}
		p.Mods = []api.Mod{{ID: id(1), Uses: ids(2), Defs: ids(3)}}
		return p
	}
	one := one(shape, 1, a)
	base := let(50, c, rec(tank, list(of(shape), one, one)))
	same := cond(op(api.Less, call(31, b), num(2)), rec(tank, list(of(shape), one, one)), c)
	other := cond(op(api.Less, call(31, b), num(1)), rec(tank, list(of(shape), one, one)), c)
	x := arguments{P: with(base), A: id(30), Q: with(same), B: id(30), Fuel: 1000}
	sound(t, x.P)
	sound(t, x.Q)
	// The proof has the cases of 2 records, each of 3 lists and these each of a tank, whose result is a list of 2 cases with a point.
	proof := differ(x).Proof
	if e := equiv.Check(x.P, x.A, x.Q, x.B, x.Fuel, proof); e != api.OK || proof.Normal {
		t.Fatalf("P15.2: the proof %+v has the error %d", proof, e)
	}
	apart(t, "P15.1", x, 1+2*(1+3*(1+(1+1+1+2*2))), differ)
	x.Proof = proof
	apart(t, "P15.3", x, 0, checkProof)
	x.Proof = split(0, byForms, proof.Kids[1])
	apart(t, "P15.3", x, 0, checkProof)
	x.Proof = equiv.Proof{}
	x.Input = []api.Value{record(number(0), fact(0)), several(fact(0)), record(several())}
	apart(t, "P15.4", x, 0, witness)
	x.Q = with(other)
	sound(t, x.Q)
	apart(t, "P15.4", x, 0, witness)
	apart(t, "P15.1", x, 4, differ) // the list, and those of the point, of the list of the second slot and of the tank, whose own list is empty
	x.Q = x.P
	apart(t, "P15.1", x, 0, differ)
	x.Q, x.B = with(base), id(31)
	apart(t, "P15.1", x, 0, differ)
}
