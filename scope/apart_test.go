package scope_test

import (
	"reflect"
	"testing"
)

// span is the memory of a slice, with its capacity.
type span struct {
	from, to uintptr
}

// slicesIn calls a function with each slice in a value.
func slicesIn(v reflect.Value, call func(reflect.Value)) {
	switch v.Kind() {
	case reflect.Slice:
		call(v)
		for i := range v.Len() {
			slicesIn(v.Index(i), call)
		}
	case reflect.Struct:
		for i := range v.NumField() {
			slicesIn(v.Field(i), call)
		}
	}
}

// memory returns the memory of the slices in a value.
func memory(v any) []span {
	var l []span
	slicesIn(reflect.ValueOf(v), func(s reflect.Value) {
		if s.Cap() > 0 && s.Type().Elem().Size() > 0 {
			from := s.Pointer()
			l = append(l, span{from, from + uintptr(s.Cap())*s.Type().Elem().Size()})
		}
	})
	return l
}

// copied returns a value that shares no memory with another one.
func copied(v reflect.Value) reflect.Value {
	x := reflect.New(v.Type()).Elem()
	x.Set(v)
	switch v.Kind() {
	case reflect.Slice:
		if v.IsNil() {
			break
		}
		x.Set(reflect.MakeSlice(v.Type(), v.Len(), v.Len()))
		for i := range v.Len() {
			x.Index(i).Set(copied(v.Index(i)))
		}
	case reflect.Struct:
		for i := range v.NumField() {
			x.Field(i).Set(copied(v.Field(i)))
		}
	}
	return x
}

// apart checks that a call does not change its arguments, that its result shares no memory with them, nor parts of it with each other, and that it is the same again.
func apart(t *testing.T, promise string, args []any, call func([]any) any) {
	t.Helper()
	var before []any
	for _, x := range args {
		before = append(before, copied(reflect.ValueOf(x)).Interface())
	}
	result := call(args)
	if !reflect.DeepEqual(args, before) {
		t.Errorf("%s: a call changes its arguments", promise)
	}
	own := memory(result)
	if len(own) == 0 {
		t.Errorf("%s: the result has no lists", promise)
	}
	var others []span
	for _, x := range args {
		others = append(others, memory(x)...)
	}
	for i, a := range own {
		for _, b := range append(others, own[:i]...) {
			if a.from < b.to && b.from < a.to {
				t.Errorf("%s: a result shares memory", promise)
			}
		}
	}
	if !reflect.DeepEqual(call(before), result) {
		t.Errorf("%s: a call with equal arguments has another result", promise)
	}
}
