package steps

import (
	"slices"

	"splicery/api"
	"splicery/value"
)

// run is an evaluation. It has a stack of its own and no recursion, since calls add up the levels of many bodies. As long as it lasts, values share memory with one another and with the arguments.
type run struct {
	p      api.Prog
	watch  Watch
	defs   map[api.ID]*api.Def // the definitions of p, once one has been asked for
	tasks  []task              // each one is needed by the one before it
	values []api.Value         // those that tasks have got and still need
	vars   variables
	fuel   int
	calls  int // how many bodies are being evaluated, each one for a call in the one before it
}

// task is a node whose evaluation has begun.
type task struct {
	e     *api.Expr
	begun int // how many evaluations it has asked for
	from  int // how many values the tasks before it have got
	bound int // how many names the tasks before it have bound
}

// evaluate evaluates a node with all that it needs.
func (r *run) evaluate(e *api.Expr) api.Value {
	r.begin(e)
	for len(r.tasks) > 0 {
		t := &r.tasks[len(r.tasks)-1]
		if next := r.next(t); next != nil {
			r.begin(next)
		} else {
			r.end(t)
		}
	}
	return r.pop()
}

// begin begins the evaluation of a node, which is one step.
func (r *run) begin(e *api.Expr) {
	if r.fuel == 0 {
		fail(api.ErrFuel)
	}
	r.fuel--
	if r.watch.Node != nil {
		r.watch.Node(e.ID)
	}
	r.tasks = append(r.tasks, task{e: e, from: len(r.values), bound: r.vars.count()})
}

// end replaces the last task, and the values that it has got, by the value of its node.
func (r *run) end(t *task) {
	v := r.result(t.e, r.values[t.from:])
	r.vars.leave(t.bound)
	r.values = append(r.values[:t.from], v)
	r.tasks = r.tasks[:len(r.tasks)-1]
}

// next returns the node that a task has to evaluate next; nil, if there is none.
func (r *run) next(t *task) *api.Expr {
	e, n := t.e, t.begun
	t.begun++
	switch {
	case e.Kind == api.NCall && n == len(e.Kids):
		return r.call(t)
	case e.Kind == api.NIf && n == 1:
		t.begun = len(e.Kids) // the other branch is not evaluated
		return r.branch(e)
	case e.Kind == api.NMatch && n == 1:
		t.begun = len(e.Kids)
		return r.match(e)
	case e.Kind == api.NFold && n > 1:
		return r.fold(t, n-2)
	case e.Kind == api.NLet && n == 1:
		r.vars.enter(name{e.ID, 0}, r.pop())
	}
	if n < len(e.Kids) {
		return &e.Kids[n]
	}
	return nil
}

// result returns the value of a node, where l are the values that its task has got.
func (r *run) result(e *api.Expr, l []api.Value) api.Value {
	switch e.Kind {
	case api.NInt:
		return number(e.N)
	case api.NBool:
		return api.Value{Kind: api.VBool, N: e.N}
	case api.NVar:
		return r.vars.get(name{e.Ref, e.N})
	case api.NCall:
		r.calls--
	case api.NOp:
		return within(operation(e.N, l))
	case api.NRec:
		return within(api.Value{Kind: api.VRec, Kids: slices.Clone(l)})
	case api.NField:
		return l[0].Kids[e.N]
	case api.NCase:
		return within(api.Value{Kind: api.VCase, N: e.N, Kids: slices.Clone(l)})
	case api.NList:
		return within(api.Value{Kind: api.VList, Kids: slices.Clone(l)})
	}
	return l[len(l)-1]
}

// pop takes the last value away.
func (r *run) pop() api.Value {
	last := len(r.values) - 1
	v := r.values[last]
	r.values = r.values[:last]
	return v
}

// branch returns the branch of a condition that has to be evaluated.
func (r *run) branch(e *api.Expr) *api.Expr {
	if isTrue(r.pop()) {
		return &e.Kids[1]
	}
	return &e.Kids[2]
}

// match returns the branch of a match that has to be evaluated, and binds its name.
func (r *run) match(e *api.Expr) *api.Expr {
	v := r.pop()
	r.vars.enter(name{e.ID, v.N}, v.Kids[0])
	return &e.Kids[1+v.N]
}

// fold returns what a fold evaluates for an element of its list, and binds its names; nil behind the last element.
func (r *run) fold(t *task, element int) *api.Expr {
	l := r.values[t.from].Kids
	if element == len(l) {
		return nil
	}
	r.vars.leave(t.bound)
	r.vars.enter(name{t.e.ID, 0}, l[element])
	r.vars.enter(name{t.e.ID, 1}, r.pop())
	return &t.e.Kids[2]
}

// call returns the body of the definition that a call names, and binds its slots to the values of the kids.
func (r *run) call(t *task) *api.Expr {
	if r.defs == nil {
		r.defs = Defs(r.p)
	}
	d := r.defs[t.e.Ref]
	if d == nil || !HasBody(d) {
		fail(api.ErrNone)
	}
	if r.watch.Def != nil {
		r.watch.Def(d.ID)
	}
	args := r.values[t.from:]
	r.values = r.values[:t.from]
	return r.open(d, args)
}

// open returns the body of a definition, and binds its slots.
func (r *run) open(d *api.Def, args []api.Value) *api.Expr {
	if r.calls == len(r.p.Defs) { // one of them calls itself, perhaps without an end
		fail(api.ErrFuel)
	}
	r.calls++
	for i, s := range d.Slots {
		r.vars.enter(name{s.ID, 0}, args[i])
	}
	return &d.Body
}

// within returns a value that a node has made, if it is not too large. What other nodes have is an argument, or a part of such a value.
func within(v api.Value) api.Value {
	if value.Size(v) > api.MaxSize || depth(v) > api.MaxDepth {
		fail(api.ErrLimit)
	}
	return v
}

// depth returns the depth of a value.
func depth(v api.Value) int {
	deepest := 0
	for _, kid := range v.Kids {
		deepest = max(deepest, depth(kid))
	}
	return deepest + 1
}
