package normal_test

import (
	"reflect"
	"testing"

	"splicery/api"
	"splicery/normal"
)

// span is the memory of a slice, with its capacity.
type span struct {
	from, to uintptr
}

// slicesIn calls a function with each slice in a value.
func slicesIn(v reflect.Value, call func(reflect.Value)) {
	switch v.Kind() {
	case reflect.Slice:
		call(v)
		for i := range v.Len() {
			slicesIn(v.Index(i), call)
		}
	case reflect.Struct:
		for i := range v.NumField() {
			slicesIn(v.Field(i), call)
		}
	}
}

// memory returns the memory of the slices in a value.
func memory(v any) []span {
	var l []span
	slicesIn(reflect.ValueOf(v), func(s reflect.Value) {
		if s.Cap() > 0 && s.Type().Elem().Size() > 0 {
			from := s.Pointer()
			l = append(l, span{from, from + uintptr(s.Cap())*s.Type().Elem().Size()})
		}
	})
	return l
}

// copied returns a value that shares no memory with another one. Its slices have room behind their elements, which nothing may be written into.
func copied(v reflect.Value) reflect.Value {
	x := reflect.New(v.Type()).Elem()
	x.Set(v)
	switch v.Kind() {
	case reflect.Slice:
		if v.IsNil() {
			break
		}
		room := reflect.MakeSlice(v.Type(), v.Len()+3, v.Len()+3)
		for i := range v.Len() {
			room.Index(i).Set(copied(v.Index(i)))
		}
		x.Set(room.Slice(0, v.Len()))
	case reflect.Struct:
		for i := range v.NumField() {
			x.Field(i).Set(copied(v.Field(i)))
		}
	}
	return x
}

// roomIsEmpty reports whether the room behind the elements of all slices in a value is empty.
func roomIsEmpty(v any) bool {
	empty := true
	slicesIn(reflect.ValueOf(v), func(s reflect.Value) {
		all := s.Slice(0, s.Cap())
		for i := s.Len(); i < s.Cap(); i++ {
			empty = empty && all.Index(i).IsZero()
		}
	})
	return empty
}

// arguments are those of Expr, Same, Meaning or Cone.
type arguments struct {
	P, Q api.Prog
	A, B api.Expr
	ID   api.ID
}

// result is what one of them returns.
type result struct {
	Expr api.Expr
	Same bool
	Sum  api.Digest
	Code api.Errno
	Cone []api.ID
}

// apart checks that a call does not change its arguments, that its result shares no memory with them, nor parts of it with each other, and that it is the same again.
func apart(t *testing.T, promise string, args arguments, lists int, call func(x arguments) result) {
	t.Helper()
	own := copied(reflect.ValueOf(args)).Interface().(arguments)
	got := call(own)
	if !reflect.DeepEqual(own, args) || !roomIsEmpty(own) {
		t.Errorf("%s: a call changes its arguments", promise)
	}
	mine, others := memory(got), memory(own)
	if len(mine) != lists {
		t.Errorf("%s: the result %+v has %d lists, not %d", promise, got, len(mine), lists)
	}
	for i, a := range mine {
		for _, b := range append(others, mine[:i]...) {
			if a.from < b.to && b.from < a.to {
				t.Fatalf("%s: the result %+v shares memory", promise, got)
			}
		}
	}
	before := copied(reflect.ValueOf(got)).Interface()
	spoil(got)
	for range 5 { // whatever the order of a map is, and although the result has been changed
		again := call(own)
		if !reflect.DeepEqual(copied(reflect.ValueOf(again)).Interface(), before) {
			t.Errorf("%s: a call with equal arguments has another result", promise)
		}
		spoil(again)
	}
}

// spoil changes all elements of a result.
func spoil(x result) {
	spoilExpr(&x.Expr)
	for i := range x.Cone {
		x.Cone[i] = id(77)
	}
}

func spoilExpr(e *api.Expr) {
	for i := range e.Kids {
		spoilExpr(&e.Kids[i])
	}
	for i := range e.Names {
		e.Names[i] = "spoilt"
	}
	spoilType(&e.Type)
	*e = api.Expr{Kind: 77}
}

func spoilType(t *api.Type) {
	for i := range t.Kids {
		spoilType(&t.Kids[i])
	}
	*t = api.Type{Kind: 77}
}

// TestApart checks that results are new memory, and that arguments stay.
func TestApart(t *testing.T) {
	deep := listOf(listOf(of(20)))
	body := let(50, v(3001), cond(v(3002), fold(51, list(deep, v(50)), match(52, 21, v(3001), nth(52, 0), list(deep)), add(nth(51, 1), nth(51, 0))), match(53, 21, one(21, 1, call(31, v(50))), num(1), call(31, nth(53, 1), nth(53, 1), v(50)))))
	p := prog(data(20, api.KRec, whole, truth), data(21, api.KCase, deep, truth), def(30, api.KFun, deep, body, whole, truth), def(31, api.KFun, whole, v(3101), whole, whole, whole))
	for i := range p.Defs { // so that all lists are there
		p.Defs[i].Layout = []string{"", "# x"}
	}
	p.Mods = []api.Mod{{ID: id(1), Uses: ids(2), Defs: ids(3)}}
	shared := list(deep, v(1)) // parts of an argument may share memory
	for _, x := range []struct {
		e     api.Expr
		lists int // of kids, names and types
	}{
		{num(1), 0}, {add(num(1), num(2)), 0}, {add(v(1), num(2)), 1}, {shared, 1 + 2}, {call(30, shared, shared, shared), 1 + 3*3}, {let(50, call(31), v(50)), 2}, {let(50, num(1), v(50)), 0},
		{match(50, 21, one(21, 1, call(31)), num(1), nth(50, 1)), 2}, {match(50, 21, v(1), num(1), nth(50, 1)), 2}, {fold(50, v(1), v(2), v(3)), 2}, {list(deep), 2}, {body, 11 + 4},
	} {
		apart(t, "P14.1", arguments{P: p, A: x.e}, x.lists, func(x arguments) result { return result{Expr: normal.Expr(x.P, x.A)} })
		for _, other := range []api.Expr{x.e, shared, body} {
			apart(t, "P14.2", arguments{P: p, A: x.e, Q: p, B: other}, 0, func(x arguments) result { return result{Same: normal.Same(x.P, x.A, x.Q, x.B)} })
		}
	}
	for n, cone := range map[int]int{20: 1, 21: 2, 30: 4, 31: 1, 77: 0} {
		apart(t, "P14.3", arguments{P: p, ID: id(n)}, 0, func(x arguments) result {
			sum, code := normal.Meaning(x.P, x.ID)
			return result{Sum: sum, Code: code}
		})
		apart(t, "P14.4", arguments{P: p, ID: id(n)}, min(cone, 1), func(x arguments) result { return result{Cone: normal.Cone(x.P, x.ID)} })
		if got := len(normal.Cone(p, id(n))); got != cone {
			t.Errorf("P14.4: the cone of %d has %d elements, not %d", n, got, cone)
		}
	}
}
