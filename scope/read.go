package scope

import (
	"slices"

	"splicery/api"
)

// reader examines a definition before it is written, and finds out where its variables are needed.
type reader struct {
	p       api.Prog
	slots   map[string][]int // the binders of the slots by their names
	binders []binder         // those of the slots, and those of the body in the order in which it is read
	vars    int              // the number of variables that have been read
}

// binder is a name that is bound. Slots with the same name have one for all, since what hides one of them hides the others, too.
type binder struct {
	uses []int // the numbers of the variables that stand for it: how many the body has before them
	end  int   // the number of variables before the end of the kid in which it is bound
}

func newReader(p api.Prog) *reader {
	return &reader{p: p, slots: map[string][]int{}}
}

// neededIn reports whether a variable that stands for it has a number from from on, less than to.
func (b binder) neededIn(from, to int) bool {
	i, _ := slices.BinarySearch(b.uses, from)
	return i < len(b.uses) && b.uses[i] < to
}

// definition reports whether there are no dead references, wrong types and wrong nodes in a definition.
func (r *reader) definition(d api.Def) bool {
	bound := map[variable][]int{}
	for _, s := range d.Slots {
		if !r.isTyped(s.Type) {
			return false
		}
		number, ok := top(r.slots, s.Name)
		if !ok {
			number = r.add()
			push(r.slots, s.Name, number)
		}
		push(bound, variable{id: s.ID}, number)
	}
	return !hasBody(d.Kind) || r.isTyped(d.Result) && r.body(d.Body, bound)
}

// add returns the number of a new binder.
func (r *reader) add() int {
	r.binders = append(r.binders, binder{})
	return len(r.binders) - 1
}

// body reports whether the nodes of a body are right, where bound has the binders of what is bound around it.
func (r *reader) body(e api.Expr, bound map[variable][]int) bool {
	var read func(e api.Expr) bool
	read = func(e api.Expr) bool {
		if !r.isShaped(e) || len(e.Names) != bindings(e) {
			return false
		}
		if e.Kind == api.NVar {
			return r.use(top(bound, variable{e.Ref, e.N}))
		}
		for i, kid := range e.Kids {
			first := len(r.binders)
			from, to := bindsIn(e.Kind, i)
			for n := from; n < to; n++ {
				push(bound, variable{e.ID, n}, r.add())
			}
			if !read(kid) {
				return false
			}
			for n := from; n < to; n++ {
				pop(bound, variable{e.ID, n})
				r.binders[first+n-from].end = r.vars
			}
		}
		return true
	}
	return read(e)
}

// use counts a variable that stands for a binder, if it is bound, and reports whether it is.
func (r *reader) use(number int, bound bool) bool {
	if bound {
		b := &r.binders[number]
		b.uses = append(b.uses, r.vars)
		r.vars++
	}
	return bound
}

// isTyped reports whether a type is one that can be written.
func (r *reader) isTyped(t api.Type) bool {
	switch t.Kind {
	case api.TInt, api.TBool:
		return true
	case api.TList:
		return len(t.Kids) == 1 && r.isTyped(t.Kids[0])
	case api.TDef:
		d, ok := definition(r.p, t.Def)
		return ok && isType(d.Kind)
	}
	return false
}

// isShaped reports whether a node has a kind, a number, a type, and as many kids as it has to have, and names a definition, if it has to.
func (r *reader) isShaped(e api.Expr) bool {
	kids := len(e.Kids)
	switch e.Kind {
	case api.NInt:
		return kids == 0 && e.N >= -api.MaxInt && e.N <= api.MaxInt
	case api.NBool:
		return kids == 0 && (e.N == 0 || e.N == 1)
	case api.NVar:
		return kids == 0
	case api.NOp:
		return kids == operands(e.N)
	case api.NLet:
		return kids == 2
	case api.NIf, api.NFold:
		return kids == 3
	case api.NList:
		return r.isTyped(e.Type)
	}
	d, ok := definition(r.p, e.Ref)
	return ok && isNamed(e.Kind, d.Kind) && fits(e, len(d.Slots))
}

// fits reports whether a node that names a definition with a number of slots has as many kids, and the place of a slot, if it has to.
func fits(e api.Expr, slots int) bool {
	kids := len(e.Kids)
	switch e.Kind {
	case api.NCall, api.NRec:
		return kids == slots
	case api.NField, api.NCase:
		return kids == 1 && e.N >= 0 && e.N < slots
	}
	return slots > 0 && kids == slots+1
}

// bindings returns how many names a node with the right shape binds.
func bindings(e api.Expr) int {
	n := 0
	for i := range e.Kids {
		from, to := bindsIn(e.Kind, i)
		n += to - from
	}
	return n
}

// operands returns the number of operands of an operation; -1, if there is no such operation.
func operands(n int) int {
	switch {
	case n < api.Add || n > api.Len:
		return -1
	case n == api.Not || n == api.Len:
		return 1
	}
	return 2
}
