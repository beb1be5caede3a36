package equiv

import (
	"splicery/api"
	"splicery/domain"
	"splicery/eval"
	"splicery/normal"
	"splicery/steps"
)

// side is one of two definitions that are compared.
type side struct {
	part api.Prog // what it depends on: many calls are quicker if they do not see the rest of a large program
	defs map[api.ID]*api.Def
	def  *api.Def
}

// sideOf returns the definition of a program with an ID.
func sideOf(p api.Prog, id api.ID) side {
	needed := map[api.ID]bool{}
	for _, x := range normal.Cone(p, id) {
		needed[x] = true
	}
	var part api.Prog
	for i := range p.Defs {
		if needed[p.Defs[i].ID] {
			part.Defs = append(part.Defs, p.Defs[i])
		}
	}
	defs := steps.Defs(part)
	return side{part, defs, defs[id]}
}

// isData reports whether a definition is a type.
func isData(d *api.Def) bool { return d.Kind == api.KRec || d.Kind == api.KCase }

// pair is two definitions that can be compared.
type pair struct {
	a, b    side
	fuel    int
	met     map[api.ID]bool // the definitions of both programs that have been compared, with those of open
	open    []api.ID        // those that still have to be
	domains map[int][]api.Value
}

// compare returns two definitions, or the error if they cannot be compared.
func compare(p api.Prog, a api.ID, q api.Prog, b api.ID, fuel int) (*pair, api.Errno) {
	x := &pair{a: sideOf(p, a), b: sideOf(q, b), fuel: fuel, met: map[api.ID]bool{}, domains: map[int][]api.Value{}}
	c, d := x.a.def, x.b.def
	switch {
	case c == nil || d == nil || isData(c) || isData(d):
		return nil, api.ErrNone
	case !steps.HasBody(c) || !steps.HasBody(d) || !x.sameSlots(c, d) || !x.settle():
		return nil, api.ErrType
	}
	return x, api.OK
}

// examine is compare with the error of the inputs.
func examine(p api.Prog, a api.ID, q api.Prog, b api.ID, fuel int) (*pair, api.Errno) {
	x, e := compare(p, a, q, b, fuel)
	if e != api.OK {
		return nil, e
	}
	if _, e := domain.Count(x.a.part, x.a.def.Slots); e != api.OK {
		return nil, e
	}
	return x, api.OK
}

// call returns the values of the calls of both definitions with an input; false, if one of them fails.
func (x *pair) call(l []api.Value) (v, w api.Value, ok bool) {
	v, _, e := eval.Call(x.a.part, x.a.def.ID, l, x.fuel)
	if e != api.OK {
		return v, w, false
	}
	w, _, e = eval.Call(x.b.part, x.b.def.ID, l, x.fuel)
	return v, w, e == api.OK
}

// domain returns the domain of the slot k, which proofs ask for again and again.
func (x *pair) domain(k int) []api.Value {
	l, ok := x.domains[k]
	if !ok {
		s := &x.a.def.Slots[k]
		l, _ = domain.Values(x.a.part, s.Type, s.Most)
		x.domains[k] = l
	}
	return l
}
