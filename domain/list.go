package domain

import (
	"iter"
	"slices"

	"splicery/api"
)

// listing returns the domain of a type that has been examined for a bound at a depth, in any order. Its values share memory.
type listing func(t api.Type, most, depth int) []api.Value

// lister returns a function that lists domains, each of them once. Where there are no values, it does not look for those of the parts, which may be many.
func lister(defs definitions, measure measuring) listing {
	known := map[place][]api.Value{}
	var list listing
	list = func(t api.Type, most, depth int) []api.Value {
		if x, e := measure(t, most, depth); e != api.OK || x.values == 0 {
			return nil
		}
		here := place{t.Def, most, depth}
		if l, ok := known[here]; ok && t.Kind == api.TDef {
			return l
		}
		l := defs.values(t, most, func(part api.Type) []api.Value { return list(part, most, depth+1) })
		if t.Kind == api.TDef {
			known[here] = l
		}
		return l
	}
	return list
}

// values returns the domain of a type for a bound; a function lists the domains of its parts.
func (defs definitions) values(t api.Type, most int, list func(part api.Type) []api.Value) []api.Value {
	switch {
	case t.Kind == api.TInt:
		return numbered(api.VInt, -most, most)
	case t.Kind == api.TBool:
		return numbered(api.VBool, 0, 1)
	case t.Kind == api.TList && longest(most) == 0:
		return filled(api.VList) // the empty list, whatever its elements would be
	case t.Kind == api.TList:
		return lists(list(t.Kids[0]), longest(most))
	}
	var domains [][]api.Value
	for _, part := range defs.parts(t) {
		domains = append(domains, list(part))
	}
	if defs.isRecord(t) {
		return filled(api.VRec, domains...)
	}
	return cases(domains)
}

// numbered returns values without kids, one for each number.
func numbered(kind, from, to int) []api.Value {
	var l []api.Value
	for n := from; n <= to; n++ {
		l = append(l, api.Value{Kind: kind, N: n})
	}
	return l
}

// lists returns the lists of up to long elements of a domain.
func lists(kid []api.Value, long int) []api.Value {
	var l []api.Value
	for n := range long + 1 {
		l = append(l, filled(api.VList, slices.Repeat([][]api.Value{kid}, n)...)...)
	}
	return l
}

// cases returns the values of a variant, for the domains of the Types of its slots.
func cases(domains [][]api.Value) []api.Value {
	var l []api.Value
	for i, domain := range domains {
		for _, v := range domain {
			l = append(l, api.Value{Kind: api.VCase, N: i, Kids: []api.Value{v}})
		}
	}
	return l
}

// filled returns the values of a kind that have one kid of each domain.
func filled(kind int, domains ...[]api.Value) []api.Value {
	var l []api.Value
	for kids := range combined(domains) {
		l = append(l, api.Value{Kind: kind, Kids: kids})
	}
	return l
}

// combined yields all lists that have one value of each domain, each list in its own memory.
func combined(domains [][]api.Value) iter.Seq[[]api.Value] {
	return func(yield func(l []api.Value) bool) {
		l := make([]api.Value, len(domains))
		var extend func(n int) bool
		extend = func(n int) bool {
			if n == len(domains) {
				return yield(slices.Clone(l))
			}
			for _, v := range domains[n] {
				l[n] = v
				if !extend(n + 1) {
					return false
				}
			}
			return true
		}
		extend(0)
	}
}
