package trace_test

import (
	"reflect"
	"testing"

	"splicery/api"
	"splicery/trace"
)

// span is the memory of a slice, with its capacity.
type span struct {
	from, to uintptr
}

// slicesIn calls a function with each slice in a value.
func slicesIn(v reflect.Value, call func(reflect.Value)) {
	switch v.Kind() {
	case reflect.Slice:
		call(v)
		for i := range v.Len() {
			slicesIn(v.Index(i), call)
		}
	case reflect.Struct:
		for i := range v.NumField() {
			slicesIn(v.Field(i), call)
		}
	}
}

// memory returns the memory of the slices in a value.
func memory(v any) []span {
	var l []span
	slicesIn(reflect.ValueOf(v), func(s reflect.Value) {
		if s.Cap() > 0 && s.Type().Elem().Size() > 0 {
			from := s.Pointer()
			l = append(l, span{from, from + uintptr(s.Cap())*s.Type().Elem().Size()})
		}
	})
	return l
}

// copied returns a value that shares no memory with another one. Its slices have room behind their elements, which nothing may be written into.
func copied(v reflect.Value) reflect.Value {
	x := reflect.New(v.Type()).Elem()
	x.Set(v)
	switch v.Kind() {
	case reflect.Slice:
		if v.IsNil() {
			break
		}
		room := reflect.MakeSlice(v.Type(), v.Len()+3, v.Len()+3)
		for i := range v.Len() {
			room.Index(i).Set(copied(v.Index(i)))
		}
		x.Set(room.Slice(0, v.Len()))
	case reflect.Struct:
		for i := range v.NumField() {
			x.Field(i).Set(copied(v.Field(i)))
		}
	}
	return x
}

// roomIsEmpty reports whether the room behind the elements of all slices in a value is empty.
func roomIsEmpty(v any) bool {
	empty := true
	slicesIn(reflect.ValueOf(v), func(s reflect.Value) {
		all := s.Slice(0, s.Cap())
		for i := s.Len(); i < s.Cap(); i++ {
			empty = empty && all.Index(i).IsZero()
		}
	})
	return empty
}

// arguments are those of Call, Join, Asks or Changed.
type arguments struct {
	P, Q api.Prog
	Args []api.Value
	A, B trace.Trace
	IDs  []api.ID
}

// result is what one of them returns.
type result struct {
	Value   api.Value
	Trace   trace.Trace
	Changed []api.ID
	Asks    bool
	Code    api.Errno
}

// apart checks that a call does not change its arguments, that its result shares no memory with them, nor parts of it with each other, and that it is the same again.
func apart(t *testing.T, promise string, args arguments, lists int, call func(x arguments) result) {
	t.Helper()
	own := copied(reflect.ValueOf(args)).Interface().(arguments)
	got := call(own)
	if !reflect.DeepEqual(own, args) || !roomIsEmpty(own) {
		t.Errorf("%s: a call changes its arguments", promise)
	}
	mine := memory(got)
	if len(mine) != lists {
		t.Errorf("%s: the result %+v has %d lists, not %d", promise, got, len(mine), lists)
	}
	others := memory(own)
	for i, a := range mine {
		for _, b := range append(others, mine[:i]...) {
			if a.from < b.to && b.from < a.to {
				t.Errorf("%s: the result %+v shares memory", promise, got)
			}
		}
	}
	before := copied(reflect.ValueOf(got)).Interface()
	spoil(got)
	for range 5 { // whatever the order of a map is, and although the result has been changed
		again := call(own)
		if !reflect.DeepEqual(copied(reflect.ValueOf(again)).Interface(), before) {
			t.Errorf("%s: a call with equal arguments has another result", promise)
		}
		spoil(again)
	}
}

// spoil changes all elements of the lists of a result.
func spoil(x result) {
	for _, l := range [][]api.ID{x.Trace.Defs, x.Trace.Nodes, x.Changed} {
		for i := range l {
			l[i].Index = -77
		}
	}
	for i := range x.Value.Kids {
		x.Value.Kids[i].N = -77
	}
}

// TestApart checks that results are new memory, and that arguments stay.
func TestApart(t *testing.T) {
	p := prog(
		def(1, api.KRec, whole, api.Expr{}, listOf(whole), listOf(whole)),
		def(2, api.KFun, of(1), rec(1, call(3, v(201)), v(201)), listOf(whole), of(1)),
		def(3, api.KFun, listOf(whole), v(301), listOf(whole)),
	)
	q := changedBy(p, func(q *api.Prog) { q.Defs[1].Body.Kids[0].Kids[0].N, q.Defs[0].Result = 1, truth })
	l := numbers(1, 2, 3)
	both := args(l, record(l, l)) // args may share memory
	for fuel, lists := range map[int]int{plenty: 5, 4: 2, 1: 2, 0: 1} {
		apart(t, "P12.1", arguments{P: p, Args: both}, lists, func(x arguments) result {
			v, tr, code := trace.Call(x.P, id(2), x.Args, fuel)
			return result{Value: v, Trace: tr, Code: code}
		})
	}
	apart(t, "P12.1", arguments{P: p, Args: both[:1]}, 0, func(x arguments) result {
		v, tr, code := trace.Call(x.P, id(2), x.Args, plenty)
		return result{Value: v, Trace: tr, Code: code}
	})
	a, b := trace.Trace{Defs: ids(1, 2, 3), Nodes: ids(3, 2, 1, 2)}, trace.Trace{Defs: ids(5, 4), Nodes: ids(9)}
	for _, x := range []arguments{{A: a, B: b}, {A: b, B: a}, {A: a}, {B: a}, {A: sortedTrace(a)}, {B: sortedTrace(a)}, {A: a, B: a}} {
		apart(t, "P12.2", x, 2, func(x arguments) result { return result{Trace: trace.Join(x.A, x.B)} })
	}
	for _, l := range [][]api.ID{ids(4, 3, 3), ids(5, 3, 2), ids(7, 6)} {
		apart(t, "P12.3", arguments{A: a, IDs: l}, 0, func(x arguments) result { return result{Asks: trace.Asks(x.A, x.IDs)} })
	}
	for _, x := range []arguments{{P: p, Q: q}, {P: q, Q: p}, {P: p}, {Q: q}} {
		apart(t, "P12.4", x, 1, func(x arguments) result { return result{Changed: trace.Changed(x.P, x.Q)} })
	}
}

// sortedTrace returns a trace in order.
func sortedTrace(t trace.Trace) trace.Trace {
	return trace.Trace{Defs: sorted(t.Defs), Nodes: sorted(t.Nodes)}
}
