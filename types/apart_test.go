package types_test

import (
	"reflect"
	"slices"
	"testing"

	"splicery/api"
	"splicery/types"
)

// span is the memory of a slice, with its capacity.
type span struct {
	from, to uintptr
}

// slicesIn calls a function with each slice in a value.
func slicesIn(v reflect.Value, call func(reflect.Value)) {
	switch v.Kind() {
	case reflect.Slice:
		call(v)
		for i := range v.Len() {
			slicesIn(v.Index(i), call)
		}
	case reflect.Struct:
		for i := range v.NumField() {
			slicesIn(v.Field(i), call)
		}
	}
}

// memory returns the memory of the slices in a value.
func memory(v any) []span {
	var l []span
	slicesIn(reflect.ValueOf(v), func(s reflect.Value) {
		if s.Cap() > 0 && s.Type().Elem().Size() > 0 {
			from := s.Pointer()
			l = append(l, span{from, from + uintptr(s.Cap())*s.Type().Elem().Size()})
		}
	})
	return l
}

// copied returns a value that shares no memory with another one.
func copied(v reflect.Value) reflect.Value {
	x := reflect.New(v.Type()).Elem()
	x.Set(v)
	switch v.Kind() {
	case reflect.Slice:
		if v.IsNil() {
			break
		}
		x.Set(reflect.MakeSlice(v.Type(), v.Len(), v.Len()))
		for i := range v.Len() {
			x.Index(i).Set(copied(v.Index(i)))
		}
	case reflect.Struct:
		for i := range v.NumField() {
			x.Field(i).Set(copied(v.Field(i)))
		}
	}
	return x
}

// apart checks that a call does not change its arguments, that its result shares no memory with them, nor parts of it with each other, and that it is the same again.
func apart(t *testing.T, promise string, args []any, call func([]any) any) {
	t.Helper()
	var before []any
	for _, x := range args {
		before = append(before, copied(reflect.ValueOf(x)).Interface())
	}
	result := call(args)
	if !reflect.DeepEqual(args, before) {
		t.Errorf("%s: a call changes its arguments", promise)
	}
	own := memory(result)
	if len(own) == 0 {
		t.Errorf("%s: the result has no lists", promise)
	}
	var others []span
	for _, x := range args {
		others = append(others, memory(x)...)
	}
	for i, a := range own {
		for _, b := range append(others, own[:i]...) {
			if a.from < b.to && b.from < a.to {
				t.Errorf("%s: a result shares memory", promise)
			}
		}
	}
	if !reflect.DeepEqual(call(before), result) {
		t.Errorf("%s: a call with equal arguments has another result", promise)
	}
}

// TestApart checks that results are new memory, for an expression with types that have kids, in what is bound, in definitions and in nodes.
func TestApart(t *testing.T) {
	e := let(100, list(101, listOf(truth), v(110, bools)), fold(102, v(103, ints), field(104, recB, 0, v(105, aB)), op(106, api.Join, vn(107, 102, 1), list(108, whole, num(109)))))
	e.Names, e.Kids[1].Names = []string{"a"}, []string{"b", "c"}
	p, l := world(), slices.Concat(around(), around())
	apart(t, "P9.1", []any{p, l, e}, func(args []any) any {
		x, _, _ := types.Infer(args[0].(api.Prog), args[1].([]types.Bound), args[2].(api.Expr))
		return x
	})
	for _, e := range []api.Expr{v(1, lists), call(1, funN), field(1, recB, 0, v(2, aB)), list(1, listOf(listOf(truth))), let(1, v(2, lists), v(3, 1)), match(1, caseS, v(2, aS), v(3, lists), v(3, lists), v(4, lists))} {
		apart(t, "P9.1", []any{p, l, e}, func(args []any) any {
			x, _, _ := types.Infer(args[0].(api.Prog), args[1].([]types.Bound), args[2].(api.Expr))
			return x
		})
	}
	for _, n := range []int{100, 101, 102, 103, 106, 108} {
		apart(t, "P9.3", []any{p, l, e}, func(args []any) any {
			around, node, ok := types.Inside(args[0].(api.Prog), args[1].([]types.Bound), args[2].(api.Expr), id(n))
			if !ok {
				t.Errorf("P9.3: the node %d is not found", n)
			}
			return struct {
				Around []types.Bound
				Node   api.Expr
			}{around, node}
		})
	}
	apart(t, "P9.4", []any{e}, func(args []any) any { return types.Free(args[0].(api.Expr)) })
	for range 20 { // the same again, whatever the order of a map is
		if got := written(types.Free(list(1, whole, v(2, 9), v(3, 8), v(4, 7), v(5, 6), v(6, 5)))); got != "5.0 6.0 7.0 8.0 9.0" {
			t.Errorf("P9.4: Free returns %s", got)
		}
	}
}
