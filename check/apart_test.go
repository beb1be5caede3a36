package check_test

import (
	"math/rand"
	"reflect"
	"testing"

	"splicery/api"
	"splicery/check"
)

// span is the memory of a slice, with its capacity.
type span struct {
	from, to uintptr
}

// slicesIn calls a function with each slice in a value.
func slicesIn(v reflect.Value, call func(reflect.Value)) {
	switch v.Kind() {
	case reflect.Slice:
		call(v)
		for i := range v.Len() {
			slicesIn(v.Index(i), call)
		}
	case reflect.Struct:
		for i := range v.NumField() {
			slicesIn(v.Field(i), call)
		}
	}
}

// memory returns the memory of the slices in a value.
func memory(v any) []span {
	var l []span
	slicesIn(reflect.ValueOf(v), func(s reflect.Value) {
		if s.Cap() > 0 && s.Type().Elem().Size() > 0 {
			from := s.Pointer()
			l = append(l, span{from, from + uintptr(s.Cap())*s.Type().Elem().Size()})
		}
	})
	return l
}

// copied returns a value that shares no memory with another one.
func copied(v reflect.Value) reflect.Value {
	x := reflect.New(v.Type()).Elem()
	x.Set(v)
	switch v.Kind() {
	case reflect.Slice:
		if v.IsNil() {
			break
		}
		x.Set(reflect.MakeSlice(v.Type(), v.Len(), v.Len()))
		for i := range v.Len() {
			x.Index(i).Set(copied(v.Index(i)))
		}
	case reflect.Struct:
		for i := range v.NumField() {
			x.Field(i).Set(copied(v.Field(i)))
		}
	}
	return x
}

// apart checks that a call does not change its arguments, that its result shares no memory with them, nor parts of it with each other, and that it is the same again, also when it has been changed.
func apart(t *testing.T, promise string, args []any, call func([]any) any) {
	t.Helper()
	var before []any
	for _, x := range args {
		before = append(before, copied(reflect.ValueOf(x)).Interface())
	}
	result := call(args)
	if !reflect.DeepEqual(args, before) {
		t.Errorf("%s: a call changes its arguments", promise)
	}
	own := memory(result)
	if len(own) == 0 {
		t.Errorf("%s: the result has no lists", promise)
	}
	var others []span
	for _, x := range args {
		others = append(others, memory(x)...)
	}
	for i, a := range own {
		for _, b := range append(others, own[:i]...) {
			if a.from < b.to && b.from < a.to {
				t.Errorf("%s: a result shares memory", promise)
			}
		}
	}
	for range 10 { // whatever the order of a map is
		if !reflect.DeepEqual(call(before), result) {
			t.Errorf("%s: a call with equal arguments has another result", promise)
		}
	}
}

// TestApart checks that results are new memory, also for several elements with one ID.
func TestApart(t *testing.T) {
	bad, other := def(1, api.KFun, whole, yes(150)), def(2, api.KRec, whole, api.Expr{})
	user := def(3, api.KFun, of(2), list(350, of(2), call(351, 1), call(352, 3)))
	p, q := prog(bad, other, user, bad, user, bad, other), prog(bad, user, user, bad, def(2, api.KCase, whole, api.Expr{}), bad)
	old := append(check.All(p), odd(1, 1, 2), odd(2), odd(3, 1))
	all := func(args []any) any { return check.All(args[0].(api.Prog)) }
	affected := func(args []any) any { return check.Affected(args[0].(api.Prog), args[1].(api.Prog)) }
	again := func(args []any) any {
		l, _ := check.Again(args[0].(api.Prog), args[1].(api.Prog), args[2].([]api.Conflict))
		return l
	}
	apart(t, "P10.2", []any{p}, all)
	apart(t, "P10.3", []any{p, q}, affected)
	apart(t, "P10.3", []any{api.Prog{}, q}, affected)
	apart(t, "P10.4", []any{p, q, old}, again)
	apart(t, "P10.4", []any{p, p, old}, again)
	c := chance{rand.New(rand.NewSource(1))}
	for range 50 {
		p := c.changed(c.changed(program(t)))
		p.Defs = append(p.Defs, other, bad)
		q := c.changed(p)
		q.Defs = append(q.Defs, def(9, api.KConv, whole, num(950)))
		apart(t, "P10.2", []any{p}, all)
		apart(t, "P10.3", []any{p, q}, affected)
		apart(t, "P10.4", []any{p, q, c.oldOf(p)}, again)
	}
}
