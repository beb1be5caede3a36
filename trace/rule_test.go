package trace_test

import (
	"fmt"
	"slices"

	"splicery/api"
	"splicery/eval"
	"splicery/trace"
)

// The rule: traces and changes by the chapter's words, with environments that are never changed, errors that are returned, and everything in lists.

// bindingByRule is a variable with its value.
type bindingByRule struct {
	id    api.ID
	n     int
	value api.Value
}

// runByRule is what an evaluation has left of its fuel, and what it has asked.
type runByRule struct {
	p           api.Prog
	left        int
	defs, nodes []api.ID
}

// firstByRule returns the first definition with an ID.
func firstByRule(p api.Prog, id api.ID) (api.Def, bool) {
	for _, d := range p.Defs {
		if d.ID == id {
			return d, true
		}
	}
	return api.Def{}, false
}

func bodyByRule(d api.Def) bool {
	return slices.Contains([]int{api.KFun, api.KOn, api.KTest, api.KConv}, d.Kind)
}

// callByRule returns what Call returns for args of the right types, and the number of steps.
func callByRule(p api.Prog, id api.ID, args []api.Value, fuel int) (api.Value, trace.Trace, int, api.Errno) {
	d, _ := firstByRule(p, id)
	r := runByRule{p: p, left: max(fuel, 0)}
	all := r.left
	v, code := r.node(slotsByRule(d, args), d.Body)
	reached := reachedByRule(p, d, nil)
	t := trace.Trace{Defs: sorted(slices.Concat([]api.ID{id}, reached, r.defs)), Nodes: sorted(r.nodes)}
	if code != api.OK {
		v = api.Value{}
	}
	return v, t, all - r.left, code
}

// reachedByRule returns what the types of the slots of a definition reach, besides what has been reached.
func reachedByRule(p api.Prog, d api.Def, l []api.ID) []api.ID {
	for _, s := range d.Slots {
		for _, id := range namedByRule(s.Type) {
			if x, ok := firstByRule(p, id); ok && !slices.Contains(l, id) {
				l = reachedByRule(p, x, append(l, id))
			}
		}
	}
	return l
}

// namedByRule returns what a type names.
func namedByRule(t api.Type) []api.ID {
	var l []api.ID
	if t.Kind == api.TDef {
		l = append(l, t.Def)
	}
	for _, kid := range t.Kids {
		l = append(l, namedByRule(kid)...)
	}
	return l
}

func slotsByRule(d api.Def, args []api.Value) []bindingByRule {
	var l []bindingByRule
	for i, s := range d.Slots {
		l = append(l, bindingByRule{s.ID, 0, args[i]})
	}
	return l
}

func sizeByRule(v api.Value) int {
	n := 1
	for _, kid := range v.Kids {
		n += sizeByRule(kid)
	}
	return n
}

func depthByRule(v api.Value) int {
	n := 1
	for _, kid := range v.Kids {
		n = max(n, 1+depthByRule(kid))
	}
	return n
}

// node evaluates a node, and checks its value, of whatever kind it is.
func (r *runByRule) node(l []bindingByRule, e api.Expr) (api.Value, api.Errno) {
	if r.left == 0 {
		return api.Value{}, api.ErrFuel
	}
	r.left--
	r.nodes = append(r.nodes, e.ID)
	v, code := r.kind(l, e)
	if code == api.OK && (sizeByRule(v) > 256 || depthByRule(v) > 24) {
		code = api.ErrLimit
	}
	return v, code
}

func (r *runByRule) kind(l []bindingByRule, e api.Expr) (api.Value, api.Errno) {
	switch e.Kind {
	case api.NInt:
		return api.Value{Kind: api.VInt, N: e.N}, api.OK
	case api.NBool:
		return api.Value{Kind: api.VBool, N: e.N}, api.OK
	case api.NVar:
		for _, b := range slices.Backward(l) {
			if b.id == e.Ref && b.n == e.N {
				return b.value, api.OK
			}
		}
		return api.Value{}, api.ErrDead
	case api.NIf, api.NLet, api.NMatch, api.NFold:
		return r.some(l, e)
	}
	var kids []api.Value
	for _, kid := range e.Kids {
		v, code := r.node(l, kid)
		if code != api.OK {
			return api.Value{}, code
		}
		kids = append(kids, v)
	}
	switch e.Kind {
	case api.NOp:
		return eval.Op(e.N, kids), api.OK
	case api.NRec:
		return api.Value{Kind: api.VRec, Kids: kids}, api.OK
	case api.NField:
		return kids[0].Kids[e.N], api.OK
	case api.NCase:
		return api.Value{Kind: api.VCase, N: e.N, Kids: kids}, api.OK
	case api.NList:
		return api.Value{Kind: api.VList, Kids: kids}, api.OK
	}
	r.defs = append(r.defs, e.Ref)
	d, _ := firstByRule(r.p, e.Ref)
	return r.node(slotsByRule(d, kids), d.Body)
}

// some evaluates a node of a kind that evaluates its kids with other variables, or not all of them.
func (r *runByRule) some(l []bindingByRule, e api.Expr) (api.Value, api.Errno) {
	first, code := r.node(l, e.Kids[0])
	if code != api.OK {
		return api.Value{}, code
	}
	bound := func(more ...bindingByRule) []bindingByRule { return slices.Concat(l, more) }
	switch e.Kind {
	case api.NIf:
		return r.node(l, e.Kids[2-first.N])
	case api.NLet:
		return r.node(bound(bindingByRule{e.ID, 0, first}), e.Kids[1])
	case api.NMatch:
		return r.node(bound(bindingByRule{e.ID, first.N, first.Kids[0]}), e.Kids[1+first.N])
	}
	v, code := r.node(l, e.Kids[1])
	for _, x := range first.Kids {
		if code == api.OK {
			v, code = r.node(bound(bindingByRule{e.ID, 0, x}, bindingByRule{e.ID, 1, v}), e.Kids[2])
		}
	}
	return v, code
}

// contentsByRule returns the contents of the definitions and of the nodes of a program, as texts, each one with its ID, in order.
func contentsByRule(p api.Prog) (defs, nodes [][2]string) {
	var visit func(e api.Expr)
	visit = func(e api.Expr) {
		text := fmt.Sprint(e.Kind, e.N, e.Ref, typeByRule(e.Type))
		for _, kid := range e.Kids {
			text += fmt.Sprint(" ", kid.ID)
		}
		nodes = append(nodes, [2]string{fmt.Sprint(e.ID), text})
		for _, kid := range e.Kids {
			visit(kid)
		}
	}
	for _, d := range p.Defs {
		text := fmt.Sprint(d.Kind, typeByRule(d.Result))
		for _, s := range d.Slots {
			text += fmt.Sprint(" ", s.ID, typeByRule(s.Type), s.Most)
		}
		if bodyByRule(d) {
			text += fmt.Sprint(" body ", d.Body.ID)
			visit(d.Body)
		}
		defs = append(defs, [2]string{fmt.Sprint(d.ID), text})
	}
	return defs, nodes
}

func typeByRule(t api.Type) string {
	text := fmt.Sprint("(", t.Kind, t.Def)
	for _, kid := range t.Kids {
		text += typeByRule(kid)
	}
	return text + ")"
}

// idsByRule returns the IDs of all definitions and nodes of a program, with those of definitions whose bodies are no nodes, among them.
func idsByRule(p api.Prog) []api.ID {
	var l []api.ID
	var visit func(e api.Expr)
	visit = func(e api.Expr) {
		l = append(l, e.ID)
		for _, kid := range e.Kids {
			visit(kid)
		}
	}
	for _, d := range p.Defs {
		l = append(l, d.ID)
		visit(d.Body)
	}
	return l
}

// changedByRule returns what Changed returns.
func changedByRule(p, q api.Prog) []api.ID {
	pDefs, pNodes := contentsByRule(p)
	qDefs, qNodes := contentsByRule(q)
	first := func(l [][2]string, id string) string {
		for _, x := range l {
			if x[0] == id {
				return x[1]
			}
		}
		return "none"
	}
	var changed []api.ID
	for _, id := range sorted(append(idsByRule(p), idsByRule(q)...)) {
		text := fmt.Sprint(id)
		if first(pDefs, text) != first(qDefs, text) || first(pNodes, text) != first(qNodes, text) {
			changed = append(changed, id)
		}
	}
	return changed
}
