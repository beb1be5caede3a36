package domain

import "splicery/api"

// maxLong is the greatest number of elements that the lists of a domain have.
const maxLong = 2

// extent is how many values a domain has, and how many nodes the largest of them has.
type extent struct{ values, nodes int }

// place is what the extent of the domain of a definition, and whether it has one, depends on.
type place struct {
	def         api.ID
	most, depth int
}

// measuring examines a type for a bound at a depth, and returns the extent of its domain, with no nodes if it has no values.
type measuring func(t api.Type, most, depth int) (extent, api.Errno)

// measurer returns a function that examines types. It examines a definition once for each bound and depth only, since there may be many more ways on which a type leads to it.
func measurer(defs definitions) measuring {
	known := map[place]extent{}
	var measure measuring
	measure = func(t api.Type, most, depth int) (extent, api.Errno) {
		if !defs.valid(t) {
			return extent{}, api.ErrArg
		}
		if depth > api.MaxDepth {
			return extent{}, api.ErrLimit
		}
		here := place{t.Def, most, depth}
		if x, ok := known[here]; ok && t.Kind == api.TDef {
			return x, api.OK
		}
		var parts []extent
		for _, part := range defs.parts(t) {
			x, e := measure(part, most, depth+1)
			if e != api.OK {
				return extent{}, e
			}
			parts = append(parts, x)
		}
		x := defs.extent(t, most, parts)
		if x.values > api.MaxInputs || x.nodes > api.MaxSize {
			return extent{}, api.ErrLimit
		}
		if x.values == 0 {
			x.nodes = 0
		}
		if t.Kind == api.TDef {
			known[here] = x
		}
		return x, api.OK
	}
	return measure
}

// longest returns how many elements the lists of the domain for a bound have at most.
func longest(most int) int { return min(most, maxLong) }

// extent returns the extent of the domain of a type, made of those of the domains of its parts.
func (defs definitions) extent(t api.Type, most int, parts []extent) extent {
	switch {
	case t.Kind == api.TInt:
		return extent{2*most + 1, 1}
	case t.Kind == api.TBool:
		return extent{2, 1}
	case t.Kind == api.TList:
		return ofLists(parts[0], longest(most))
	case defs.isRecord(t):
		return ofRecords(parts)
	}
	return ofCases(parts)
}

// ofLists returns the extent of the lists of up to long elements of a domain.
func ofLists(kid extent, long int) extent {
	x := extent{1, 1}
	lists := 1 // of the greatest length so far
	for range long {
		lists *= kid.values
		x.values += lists
		x.nodes += kid.nodes
	}
	return x
}

// ofRecords returns the extent of the records of the values of domains. A number of values that is too great stays so, even if a domain without values follows.
func ofRecords(slots []extent) extent {
	x := extent{1, 1}
	for _, s := range slots {
		if x.values <= api.MaxInputs {
			x.values *= s.values
		}
		x.nodes += s.nodes
	}
	return x
}

// ofCases returns the extent of the cases that hold the values of domains.
func ofCases(slots []extent) extent {
	x := extent{0, 1}
	for _, s := range slots {
		x.values += s.values
		x.nodes = max(x.nodes, 1+s.nodes)
	}
	return x
}
