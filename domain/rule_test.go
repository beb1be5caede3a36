package domain_test

import (
	"slices"

	"splicery/api"
	"splicery/value"
)

// partsByRule returns the types of the parts of a valid type, and whether it is a record.
func partsByRule(p api.Prog, t api.Type) ([]api.Type, bool) {
	if t.Kind != api.TDef {
		return t.Kids, false
	}
	d, _ := value.Def(p, t.Def)
	var l []api.Type
	for _, s := range d.Slots {
		l = append(l, s.Type)
	}
	return l, d.Kind == api.KRec
}

// longByRule returns how many elements a list may have, by the words of the chapter.
func longByRule(most int) int {
	switch most {
	case 0:
		return 0
	case 1:
		return 1
	}
	return 2
}

// largest returns the number of nodes of the largest value of a domain, where none has 0.
func largest(l []api.Value) int {
	nodes := 0
	for _, v := range l {
		nodes = max(nodes, value.Size(v))
	}
	return nodes
}

// examineByRule returns the domain of a type for a bound, or its first error, by the words of the chapter.
func examineByRule(p api.Prog, t api.Type, most, depth int) ([]api.Value, api.Errno) {
	if !value.ValidType(p, t) {
		return nil, api.ErrArg
	}
	if depth > 24 {
		return nil, api.ErrLimit
	}
	types, isRecord := partsByRule(p, t)
	var parts [][]api.Value
	for _, part := range types {
		l, e := examineByRule(p, part, most, depth+1)
		if e != api.OK {
			return nil, e
		}
		parts = append(parts, l)
	}
	if tooManyByRule(t, parts, isRecord, most) || tooLargeByRule(t, parts, isRecord, most) {
		return nil, api.ErrLimit
	}
	l := domainByRule(t, parts, isRecord, most)
	var lists [][]api.Value
	for _, v := range l {
		lists = append(lists, []api.Value{v})
	}
	l = nil
	for _, x := range sortedByRule(lists) {
		l = append(l, x[0])
	}
	return l, api.OK
}

// tooManyByRule reports whether a domain has more than 4096 values, or those of the first slots of a record have.
func tooManyByRule(t api.Type, parts [][]api.Value, isRecord bool, most int) bool {
	n := 0
	switch {
	case t.Kind == api.TInt:
		n = 2*most + 1
	case t.Kind == api.TBool:
		n = 2
	case t.Kind == api.TList:
		k := len(parts[0])
		n = []int{1, 1 + k, 1 + k + k*k}[longByRule(most)]
	case isRecord:
		_, many := productByRule(parts)
		return many
	default:
		for _, l := range parts {
			n += len(l)
		}
	}
	return n > 4096
}

// productByRule returns the product of the lengths of lists, and whether that of the first ones is greater than 4096.
func productByRule(parts [][]api.Value) (int, bool) {
	n := 1
	for _, l := range parts {
		if n *= len(l); n > 4096 {
			return 0, true
		}
	}
	return n, false
}

// tooLargeByRule reports whether a domain has a value of more than 256 nodes, where a part without values counts as one with 0 nodes.
func tooLargeByRule(t api.Type, parts [][]api.Value, isRecord bool, most int) bool {
	nodes := 1
	for _, l := range parts {
		switch {
		case t.Kind == api.TList:
			nodes += longByRule(most) * largest(l)
		case isRecord:
			nodes += largest(l)
		default:
			nodes = max(nodes, 1+largest(l))
		}
	}
	return nodes > 256
}

// domainByRule returns the values of a domain, of those of its parts.
func domainByRule(t api.Type, parts [][]api.Value, isRecord bool, most int) []api.Value {
	var l []api.Value
	switch {
	case t.Kind == api.TInt:
		for n := most; n >= -most; n-- {
			l = append(l, api.Value{Kind: api.VInt, N: n})
		}
	case t.Kind == api.TBool:
		l = []api.Value{{Kind: api.VBool, N: 1}, {Kind: api.VBool}}
	case t.Kind == api.TList:
		for n := range longByRule(most) + 1 {
			for _, kids := range listsByRule(slices.Repeat(parts, n)) {
				l = append(l, api.Value{Kind: api.VList, Kids: kids})
			}
		}
	case isRecord:
		for _, kids := range listsByRule(parts) {
			l = append(l, api.Value{Kind: api.VRec, Kids: kids})
		}
	default:
		for i, part := range parts {
			for _, v := range part {
				l = append(l, api.Value{Kind: api.VCase, N: i, Kids: []api.Value{v}})
			}
		}
	}
	return l
}

// listsByRule returns the lists with an element of each of some lists: the digits of a number say which ones.
func listsByRule(parts [][]api.Value) [][]api.Value {
	var all [][]api.Value
	n, _ := productByRule(parts)
	for i := range n {
		var l []api.Value
		for _, part := range parts {
			l = append(l, part[i%len(part)])
			i /= len(part)
		}
		all = append(all, l)
	}
	return all
}

// weightByRule returns the sum of the weights of values, by the words of layer 4.
func weightByRule(l []api.Value) int {
	sum := 0
	for _, v := range l {
		switch v.Kind {
		case api.VInt:
			if v.N < 0 {
				v.N = -v.N
			}
			sum += v.N
		case api.VBool:
			sum += v.N
		case api.VRec:
			sum += weightByRule(v.Kids)
		case api.VCase:
			sum += v.N + weightByRule(v.Kids)
		case api.VList:
			sum += len(v.Kids) + weightByRule(v.Kids)
		}
	}
	return sum
}

// beforeByRule reports whether a is before b in the order of inputs, by the words of the chapter.
func beforeByRule(a, b []api.Value) bool {
	if x, y := weightByRule(a), weightByRule(b); x != y {
		return x < y
	}
	for i := range min(len(a), len(b)) {
		if !same(a[i], b[i]) {
			return smallerByRule(a[i], b[i])
		}
	}
	return len(a) < len(b)
}

// smallerByRule reports whether the first of two different values is before the second one, by the words of layer 4.
func smallerByRule(a, b api.Value) bool {
	switch {
	case a.Kind != b.Kind:
		return a.Kind < b.Kind
	case a.N != b.N:
		return a.N < b.N
	case len(a.Kids) != len(b.Kids):
		return len(a.Kids) < len(b.Kids)
	}
	for i := range a.Kids {
		if !same(a.Kids[i], b.Kids[i]) {
			return smallerByRule(a.Kids[i], b.Kids[i])
		}
	}
	return false
}

// sortedByRule returns lists of values in the order of inputs.
func sortedByRule(l [][]api.Value) [][]api.Value {
	slices.SortFunc(l, func(a, b []api.Value) int {
		switch {
		case beforeByRule(a, b):
			return -1
		case beforeByRule(b, a):
			return 1
		}
		return 0
	})
	return l
}

// inputsByRule returns the inputs of slots, or the first error, by the words of the chapter.
func inputsByRule(p api.Prog, l []api.Slot) ([][]api.Value, api.Errno) {
	var parts [][]api.Value
	for _, s := range l {
		if s.Most < 0 || 64 < s.Most {
			return nil, api.ErrArg
		}
		part, e := examineByRule(p, s.Type, s.Most, 1)
		if e != api.OK {
			return nil, e
		}
		parts = append(parts, part)
		if _, many := productByRule(parts); many {
			return nil, api.ErrLimit
		}
	}
	return sortedByRule(listsByRule(parts)), api.OK
}
