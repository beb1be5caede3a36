package eval

import (
	"splicery/api"
	"splicery/steps"
)

// Most returns an upper bound of the steps of a call of the definition with an ID; -1, if there is none.
func Most(p api.Prog, id api.ID) int {
	defs, known := steps.Defs(p), map[api.ID]int{}
	unbounded := false
	var body func(id api.ID) int
	var node func(e *api.Expr) int
	body = func(id api.ID) int {
		n, begun := known[id]
		if begun && n > 0 {
			return n
		}
		d := defs[id]
		if begun || d == nil || !steps.HasBody(d) { // if it is begun, it calls itself
			unbounded = true
			return 0
		}
		known[id] = 0
		known[id] = node(&d.Body)
		return known[id]
	}
	node = func(e *api.Expr) int {
		if e.Kind == api.NFold {
			unbounded = true
		}
		if unbounded {
			return 0
		}
		sum, branch := 1, 0
		for i := range e.Kids {
			n := node(&e.Kids[i])
			if i > 0 && (e.Kind == api.NIf || e.Kind == api.NMatch) {
				branch = max(branch, n)
			} else {
				sum = total(sum, n)
			}
		}
		if e.Kind == api.NCall {
			sum = total(sum, body(e.Ref))
		}
		return total(sum, branch)
	}
	if n := body(id); !unbounded {
		return n
	}
	return -1
}

// total returns the sum of two bounds, as a bound.
func total(a, b int) int { return min(a+b, api.MaxInt) }
