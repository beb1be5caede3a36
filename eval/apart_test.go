package eval_test

import (
	"reflect"
	"testing"

	"splicery/api"
	"splicery/eval"
)

// span is the memory of a slice, with its capacity.
type span struct {
	from, to uintptr
}

// slicesIn calls a function with each slice in a value.
func slicesIn(v reflect.Value, call func(reflect.Value)) {
	switch v.Kind() {
	case reflect.Slice:
		call(v)
		for i := range v.Len() {
			slicesIn(v.Index(i), call)
		}
	case reflect.Struct:
		for i := range v.NumField() {
			slicesIn(v.Field(i), call)
		}
	}
}

// memory returns the memory of the slices in a value.
func memory(v any) []span {
	var l []span
	slicesIn(reflect.ValueOf(v), func(s reflect.Value) {
		if s.Cap() > 0 && s.Type().Elem().Size() > 0 {
			from := s.Pointer()
			l = append(l, span{from, from + uintptr(s.Cap())*s.Type().Elem().Size()})
		}
	})
	return l
}

// copied returns a value that shares no memory with another one. Its slices have room behind their elements, which nothing may be written into.
func copied(v reflect.Value) reflect.Value {
	x := reflect.New(v.Type()).Elem()
	x.Set(v)
	switch v.Kind() {
	case reflect.Slice:
		if v.IsNil() {
			break
		}
		room := reflect.MakeSlice(v.Type(), v.Len()+3, v.Len()+3)
		for i := range v.Len() {
			room.Index(i).Set(copied(v.Index(i)))
		}
		x.Set(room.Slice(0, v.Len()))
	case reflect.Struct:
		for i := range v.NumField() {
			x.Field(i).Set(copied(v.Field(i)))
		}
	}
	return x
}

// roomIsEmpty reports whether the room behind the elements of all slices in a value is empty.
func roomIsEmpty(v any) bool {
	empty := true
	slicesIn(reflect.ValueOf(v), func(s reflect.Value) {
		all := s.Slice(0, s.Cap())
		for i := s.Len(); i < s.Cap(); i++ {
			empty = empty && all.Index(i).IsZero()
		}
	})
	return empty
}

// arguments are those of Call, Expr or Op.
type arguments struct {
	P    api.Prog
	E    api.Expr
	Args []api.Value
}

// apart checks that a call does not change its arguments, that its result shares no memory with them, nor parts of it with each other, and that it is the same again.
func apart(t *testing.T, promise string, args arguments, call func(x arguments) api.Value) {
	t.Helper()
	own := copied(reflect.ValueOf(args)).Interface().(arguments)
	result := call(own)
	if !reflect.DeepEqual(own, args) || !roomIsEmpty(own) {
		t.Errorf("%s: a call changes its arguments", promise)
	}
	mine := memory(result)
	if len(mine) == 0 {
		t.Errorf("%s: the result %+v has no lists", promise, result)
	}
	others := memory(own)
	for i, a := range mine {
		for _, b := range append(others, mine[:i]...) {
			if a.from < b.to && b.from < a.to {
				t.Errorf("%s: the result %+v shares memory", promise, result)
			}
		}
	}
	before := copied(reflect.ValueOf(result)).Interface()
	slicesIn(reflect.ValueOf(result), func(s reflect.Value) {
		for i := range s.Len() {
			s.Index(i).FieldByName("N").SetInt(77)
		}
	})
	for range 5 { // whatever the order of a map is, and although the result has been changed
		if again := call(own); !reflect.DeepEqual(again, call(args)) || !equal(again, before.(api.Value)) {
			t.Errorf("%s: a call with equal arguments has another result", promise)
		}
	}
}

// TestApart checks that results are new memory.
func TestApart(t *testing.T) {
	p := prog(
		def(1, api.KRec, whole, api.Expr{}, listOf(whole), listOf(whole)),
		def(2, api.KFun, listOf(whole), v(201), listOf(whole)),
		def(3, api.KFun, of(1), rec(1, v(301), call(2, v(301))), listOf(whole)),
		def(4, api.KFun, listOf(listOf(whole)), let(10, list(listOf(whole), v(401), v(402)), op(api.Join, v(10), v(10))), listOf(whole), listOf(whole)),
		def(5, api.KFun, listOf(whole), op(api.Join, v(501), nums()), listOf(whole)),
		def(6, api.KFun, listOf(whole), field(1, 1, v(601)), of(1)),
		def(7, api.KFun, of(1), fold(10, list(of(1), v(701), v(701)), v(701), rec(1, field(1, 1, nth(10, 0)), field(1, 1, nth(10, 1)))), of(1)),
		def(8, api.KCase, whole, api.Expr{}, listOf(whole)),
		def(9, api.KFun, listOf(of(8)), match(10, 8, v(901), list(of(8), one(8, 0, v(10)), v(901))), of(8)),
	)
	l := numbers(1, 2, 3)
	same := record(l, l) // the kids of an arg may share memory
	for _, x := range []struct {
		n    int
		args []api.Value
	}{{2, []api.Value{l}}, {3, []api.Value{l}}, {4, []api.Value{l, l}}, {5, []api.Value{l}}, {6, []api.Value{same}}, {7, []api.Value{same}}, {9, []api.Value{variant(0, l)}}} {
		apart(t, "P11.1", arguments{P: p, Args: x.args}, func(x2 arguments) api.Value {
			v, _, code := eval.Call(x2.P, id(x.n), x2.Args, plenty)
			if code != api.OK {
				t.Fatalf("P11.1: d%d fails with %d", x.n, code)
			}
			eval.Most(x2.P, id(x.n))
			return v
		})
	}
	for _, e := range []api.Expr{nums(1, 2), let(10, nums(1), rec(1, v(10), v(10))), call(3, nums(1, 2)), call(4, nums(1), nums(2)), fold(10, nums(1, 2), nums(), op(api.Join, nth(10, 1), nth(10, 1)))} {
		if e.Kind == api.NFold {
			e.Kids[1] = nums(4)
		}
		apart(t, "P11.2", arguments{P: p, E: e}, func(x arguments) api.Value {
			v, _, code := eval.Expr(x.P, x.E, plenty)
			if code != api.OK {
				t.Fatalf("P11.2: %+v fails with %d", e, code)
			}
			return v
		})
	}
	lists := values(l, numbers(), l)
	for _, args := range [][]api.Value{{l, l}, {lists, lists}, {lists, values()}, {values(), lists}} {
		apart(t, "P11.3", arguments{Args: args}, func(x arguments) api.Value { return eval.Op(api.Join, x.Args) })
	}
}
