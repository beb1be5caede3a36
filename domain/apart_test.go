package domain_test

import (
	"reflect"
	"testing"

	"splicery/api"
	"splicery/domain"
)

// span is the memory of a slice, with its capacity.
type span struct {
	from, to uintptr
}

// slicesIn calls a function with each slice in a value.
func slicesIn(v reflect.Value, call func(reflect.Value)) {
	switch v.Kind() {
	case reflect.Slice:
		call(v)
		for i := range v.Len() {
			slicesIn(v.Index(i), call)
		}
	case reflect.Struct:
		for i := range v.NumField() {
			slicesIn(v.Field(i), call)
		}
	}
}

// memory returns the memory of the slices in a value.
func memory(v any) []span {
	var l []span
	slicesIn(reflect.ValueOf(v), func(s reflect.Value) {
		if s.Cap() > 0 && s.Type().Elem().Size() > 0 {
			from := s.Pointer()
			l = append(l, span{from, from + uintptr(s.Cap())*s.Type().Elem().Size()})
		}
	})
	return l
}

// copied returns a value that shares no memory with another one. Its slices have room behind their elements, which nothing may be written into.
func copied(v reflect.Value) reflect.Value {
	x := reflect.New(v.Type()).Elem()
	x.Set(v)
	switch v.Kind() {
	case reflect.Slice:
		if v.IsNil() {
			break
		}
		room := reflect.MakeSlice(v.Type(), v.Len()+3, v.Len()+3)
		for i := range v.Len() {
			room.Index(i).Set(copied(v.Index(i)))
		}
		x.Set(room.Slice(0, v.Len()))
	case reflect.Struct:
		for i := range v.NumField() {
			x.Field(i).Set(copied(v.Field(i)))
		}
	}
	return x
}

// roomIsEmpty reports whether the room behind the elements of all slices in a value is empty.
func roomIsEmpty(v any) bool {
	empty := true
	slicesIn(reflect.ValueOf(v), func(s reflect.Value) {
		all := s.Slice(0, s.Cap())
		for i := s.Len(); i < s.Cap(); i++ {
			empty = empty && all.Index(i).IsZero()
		}
	})
	return empty
}

// arguments are those of Values, Count, Inputs or Before.
type arguments struct {
	P     api.Prog
	Type  api.Type
	Slots []api.Slot
	A, B  []api.Value
}

// result is what one of them returns.
type result struct {
	Values []api.Value
	Inputs [][]api.Value
	Count  int
	Before bool
	Code   api.Errno
}

// apart checks that a call does not change its arguments, that its result shares no memory with them, nor parts of it with each other, and that it is the same again.
func apart(t *testing.T, promise string, args arguments, lists int, call func(x arguments) result) {
	t.Helper()
	own := copied(reflect.ValueOf(args)).Interface().(arguments)
	got := call(own)
	if !reflect.DeepEqual(own, args) || !roomIsEmpty(own) {
		t.Errorf("%s: a call changes its arguments", promise)
	}
	mine, others := memory(got), memory(own)
	if len(mine) != lists {
		t.Errorf("%s: the result %+v has %d lists, not %d", promise, got, len(mine), lists)
	}
	for i, a := range mine {
		for _, b := range append(others, mine[:i]...) {
			if a.from < b.to && b.from < a.to {
				t.Fatalf("%s: the result %+v shares memory", promise, got)
			}
		}
	}
	before := copied(reflect.ValueOf(got)).Interface()
	spoil(got)
	for range 5 { // whatever the order of a map is, and although the result has been changed
		again := call(own)
		if !reflect.DeepEqual(copied(reflect.ValueOf(again)).Interface(), before) {
			t.Errorf("%s: a call with equal arguments has another result", promise)
		}
		spoil(again)
	}
}

// spoil changes all values of a result.
func spoil(x result) {
	spoilAll(x.Values)
	for _, in := range x.Inputs {
		spoilAll(in)
	}
}

func spoilAll(l []api.Value) {
	for i := range l {
		spoilAll(l[i].Kids)
		l[i] = api.Value{Kind: 77, N: -77}
	}
}

// TestApart checks that results are new memory, and that arguments stay.
func TestApart(t *testing.T) {
	p := town(rec(free, of(point), of(point), listOf(whole)), one(free+1, of(point), listOf(of(point))))
	for _, x := range []struct {
		t     api.Type
		lists int // of the domain, and of its values
	}{
		{whole, 1},
		{listOf(whole), 1 + 3}, // the empty list needs no memory
		{of(point), 1 + 6},
		{of(shape), 1 + 9 + 6},
		{of(free), 1 + 36*4*3 + 36*3},
		{of(free + 1), 1 + 6*2 + 1 + 6*3},
		{listOf(of(point)), 1 + 6*2},
		{of(loop), 0},
		{of(none), 0},
	} {
		apart(t, "P13.1", arguments{P: p, Type: x.t}, x.lists, func(x arguments) result {
			l, e := domain.Values(x.P, x.Type, 1)
			return result{Values: l, Code: e}
		})
	}
	same := slot(of(point), 1) // slots may share memory
	for _, x := range []struct {
		slots []api.Slot
		lists int // of the inputs, and of their values
	}{
		{slots(2, truth, whole), 1 + 10},
		{[]api.Slot{same, same}, 1 + 36*3},
		{slots(1, listOf(whole), listOf(whole)), 1 + 16 + 2*12},
		{slots(1, of(void), whole), 0},
		{slots(1, whole, of(none)), 0},
	} {
		apart(t, "P13.2", arguments{P: p, Slots: x.slots}, 0, func(x arguments) result {
			n, e := domain.Count(x.P, x.Slots)
			return result{Count: n, Code: e}
		})
		apart(t, "P13.3", arguments{P: p, Slots: x.slots}, x.lists, func(x arguments) result {
			l, e := domain.Inputs(x.P, x.Slots)
			return result{Inputs: l, Code: e}
		})
	}
	a, b := []api.Value{record(number(1), list()), boolean(1)}, []api.Value{list(list(), list()), number(3)}
	for _, x := range []arguments{{A: a, B: b}, {A: b, B: a}, {A: a}, {B: a}, {A: a, B: a}} {
		apart(t, "P13.4", x, 0, func(x arguments) result { return result{Before: domain.Before(x.A, x.B)} })
	}
}
