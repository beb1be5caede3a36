package types

import (
	"splicery/api"
	"splicery/value"
)

// examiner examines the nodes of an expression, until there is an error or it is stopped.
type examiner struct {
	p     api.Prog
	defs  map[api.ID]*api.Def // the definitions of p, once one has been asked for
	bound bounds
	stop  func(e *api.Expr) bool // reports whether to stop in front of a node
	ended bool
	wrong api.ID // the node for which the error is
	code  api.Errno
}

// kidFunc examines the next kid of a node, where more is bound, and returns its type, which has to be a right one.
type kidFunc func(right func(t api.Type) bool, more ...Bound) api.Type

func newExaminer(p api.Prog) *examiner {
	return &examiner{p: p, bound: bounds{last: map[name]int{}}, stop: func(*api.Expr) bool { return false }}
}

// fail ends the examination with an error for a node. It returns a type, which does not count.
func (x *examiner) fail(e *api.Expr, code api.Errno) api.Type {
	x.ended, x.wrong, x.code = true, e.ID, code
	return api.Type{}
}

// infer examines an expression, where more is bound, and returns its type. Once the examination has ended, it does nothing, and its result does not count.
func (x *examiner) infer(e *api.Expr, more ...Bound) api.Type {
	if x.ended {
		return api.Type{}
	}
	x.bound.enter(more...)
	t := x.node(e)
	x.bound.leave(more...)
	return t
}

// node examines a node before its kids, and returns its type.
func (x *examiner) node(e *api.Expr) api.Type {
	if x.stop(e) {
		x.ended = true
		return api.Type{}
	}
	if !isPossible(e) {
		return x.fail(e, api.ErrType)
	}
	d, ok := x.named(e)
	if !ok {
		return x.fail(e, api.ErrDead)
	}
	if !fitsSlots(e, d) {
		return x.fail(e, api.ErrType)
	}
	return x.kids(e, d)
}

// named returns the definition that a node names, or nil, if its kind names none; false, if what it names does not exist.
func (x *examiner) named(e *api.Expr) (*api.Def, bool) {
	switch e.Kind {
	case api.NVar:
		_, ok := x.bound.find(e)
		return nil, ok
	case api.NList:
		return nil, value.ValidType(x.p, e.Type)
	case api.NCall, api.NRec, api.NField, api.NCase, api.NMatch:
		d := x.definition(e.Ref)
		return d, d != nil && isNamed(e.Kind, d.Kind)
	}
	return nil, true
}

// definition returns the definition with an ID, or nil. Unlike value.Def, it copies nothing.
func (x *examiner) definition(id api.ID) *api.Def {
	if x.defs == nil {
		x.defs = map[api.ID]*api.Def{}
		for i := range x.p.Defs {
			if d := &x.p.Defs[i]; x.defs[d.ID] == nil {
				x.defs[d.ID] = d
			}
		}
	}
	return x.defs[id]
}

// kids examines the kids of a node that is right itself, and returns the type of the node, where d is the definition that it names.
func (x *examiner) kids(e *api.Expr, d *api.Def) api.Type {
	next := 0
	kid := func(right func(t api.Type) bool, more ...Bound) api.Type {
		k := &e.Kids[next]
		next++
		t := x.infer(k, more...)
		if !x.ended && !right(t) {
			return x.fail(k, api.ErrType)
		}
		return t
	}
	switch e.Kind {
	case api.NBool:
		return truth()
	case api.NVar:
		t, _ := x.bound.find(e)
		return t
	case api.NCall:
		return members(d, d.Result, kid)
	case api.NOp:
		return operation(e.N, kid)
	case api.NIf:
		return parts(kid)
	case api.NLet:
		return let(e, kid)
	case api.NRec:
		return members(d, typeOf(d), kid)
	case api.NField:
		kid(is(typeOf(d)))
		return d.Slots[e.N].Type
	case api.NCase:
		kid(is(d.Slots[e.N].Type))
		return typeOf(d)
	case api.NMatch:
		return cases(e, d, kid)
	case api.NList:
		return elements(e, kid)
	case api.NFold:
		return fold(e, kid)
	}
	return number()
}

// parts examines the kids of a condition, and returns its type.
func parts(kid kidFunc) api.Type {
	kid(is(truth()))
	t := kid(isAny)
	return kid(is(t))
}

// let examines the kids of a let, and returns its type.
func let(e *api.Expr, kid kidFunc) api.Type {
	t := kid(isAny)
	return kid(isAny, Bound{e.ID, 0, t})
}

// members examines a kid for each slot of a definition, and returns t.
func members(d *api.Def, t api.Type, kid kidFunc) api.Type {
	for _, s := range d.Slots {
		kid(is(s.Type))
	}
	return t
}

// cases examines the kids of a match of the variant d, and returns its type.
func cases(e *api.Expr, d *api.Def, kid kidFunc) api.Type {
	kid(is(typeOf(d)))
	t := kid(isAny, Bound{e.ID, 0, d.Slots[0].Type})
	for i, s := range d.Slots[1:] {
		kid(is(t), Bound{e.ID, 1 + i, s.Type})
	}
	return t
}

// elements examines the kids of a list, and returns its type.
func elements(e *api.Expr, kid kidFunc) api.Type {
	for range e.Kids {
		kid(is(e.Type))
	}
	return api.Type{Kind: api.TList, Kids: []api.Type{e.Type}}
}

// fold examines the kids of a fold, and returns its type.
func fold(e *api.Expr, kid kidFunc) api.Type {
	l := kid(isList)
	t := kid(isAny)
	return kid(is(t), Bound{e.ID, 0, element(l)}, Bound{e.ID, 1, t})
}

// operation examines the operands of an operation, and returns its type.
func operation(n int, kid kidFunc) api.Type {
	operand, result := number(), number()
	switch n {
	case api.Same:
		t := kid(isAny)
		kid(is(t))
		return truth()
	case api.Join:
		t := kid(isList)
		return kid(is(t))
	case api.Len:
		kid(isList)
		return number()
	case api.Less:
		result = truth()
	case api.And, api.Or, api.Not:
		operand, result = truth(), truth()
	}
	for range operands(n) {
		kid(is(operand))
	}
	return result
}
