// Package steps evaluates the nodes of expressions step by step, and tells what it asks of a program. It is no layer: packages eval (layer 11, shared/doc/11-eval.md) and trace (layer 12) share it, and others find definitions with it.
package steps

import (
	"splicery/api"
	"splicery/value"
)

// Watch is told what an evaluation asks, at once. A function that is nil is not told.
type Watch struct {
	Node func(id api.ID) // the node whose evaluation is the next step
	Def  func(id api.ID) // the definition whose body is to be evaluated next, since a node calls it
}

// failure is what an evaluation that fails panics with.
type failure api.Errno

// Call evaluates the body of the definition with an ID, with args for its slots, and returns its value and the number of steps.
func Call(p api.Prog, id api.ID, args []api.Value, fuel int, w Watch) (api.Value, int, api.Errno) {
	d := find(p, id)
	if d == nil || !HasBody(d) {
		return api.Value{}, 0, api.ErrNone
	}
	if !fitSlots(p, args, d.Slots) {
		return api.Value{}, 0, api.ErrArg
	}
	return evaluate(p, fuel, w, func(r *run) *api.Expr { return r.open(d, args) })
}

// Expr evaluates an expression without free variables, and returns its value and the number of steps.
func Expr(p api.Prog, e api.Expr, fuel int) (api.Value, int, api.Errno) {
	return evaluate(p, fuel, Watch{}, func(*run) *api.Expr { return &e })
}

// Op returns the value of an operation for the values of its kids.
func Op(n int, l []api.Value) (v api.Value) {
	defer func() {
		if recover() != nil { // there is no such operation, or not for so few values
			v = api.Value{}
		}
	}()
	return copyValue(operation(n, l))
}

// evaluate evaluates the node that a function prepares, with so much fuel, and returns its value and the number of steps.
func evaluate(p api.Prog, fuel int, w Watch, prepare func(r *run) *api.Expr) (v api.Value, steps int, code api.Errno) {
	fuel = max(fuel, 0)
	r := &run{p: p, watch: w, vars: newVariables(), fuel: fuel}
	defer func() {
		if x := recover(); x != nil {
			v, steps, code = api.Value{}, 0, codeOf(x)
		}
	}()
	v = copyValue(r.evaluate(prepare(r)))
	return v, fuel - r.fuel, api.OK
}

// fail ends an evaluation.
func fail(code api.Errno) { panic(failure(code)) }

// codeOf returns the error for what an evaluation has panicked with. If it is no failure, what was evaluated is not sound.
func codeOf(x any) api.Errno {
	if f, ok := x.(failure); ok {
		return api.Errno(f)
	}
	return api.ErrArg
}

// HasBody reports whether a definition is of a kind that has a body.
func HasBody(d *api.Def) bool { return d.Kind >= api.KFun && d.Kind <= api.KConv }

// fitSlots reports whether there is a value for each slot, of its type.
func fitSlots(p api.Prog, args []api.Value, slots []api.Slot) bool {
	if len(args) != len(slots) {
		return false
	}
	for i, v := range args {
		if !value.Valid(p, slots[i].Type, v) {
			return false
		}
	}
	return true
}

// find returns the definition with an ID, or nil. Unlike value.Def, it copies nothing.
func find(p api.Prog, id api.ID) *api.Def {
	for i := range p.Defs {
		if d := &p.Defs[i]; d.ID == id {
			return d
		}
	}
	return nil
}

// Defs returns the definitions of a program, which are not copied, by their IDs: of several ones with the same ID the first one.
func Defs(p api.Prog) map[api.ID]*api.Def {
	defs := make(map[api.ID]*api.Def, len(p.Defs))
	for i := range p.Defs {
		if d := &p.Defs[i]; defs[d.ID] == nil {
			defs[d.ID] = d
		}
	}
	return defs
}

// copyValue returns a value that shares no memory with v.
func copyValue(v api.Value) api.Value {
	kids := v.Kids
	v.Kids = nil
	for _, kid := range kids {
		v.Kids = append(v.Kids, copyValue(kid))
	}
	return v
}
