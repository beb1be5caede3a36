package domain

import (
	"splicery/api"
	"splicery/value"
)

// definitions are those of a program by their IDs: of several ones with the same ID the first one.
type definitions map[api.ID]*api.Def

// defsOf returns the definitions of a program.
func defsOf(p api.Prog) definitions {
	defs := make(definitions, len(p.Defs))
	for i := range p.Defs {
		d := &p.Defs[i]
		if _, ok := defs[d.ID]; !ok {
			defs[d.ID] = d
		}
	}
	return defs
}

// valid reports whether a type is valid. Of the program, the definition that the type names is enough for that: not all others have to be searched for it.
func (defs definitions) valid(t api.Type) bool {
	inner := t
	for range api.MaxDepth {
		if len(inner.Kids) > 0 {
			inner = inner.Kids[0]
		}
	}
	var p api.Prog
	if d, ok := defs[inner.Def]; ok {
		p.Defs = []api.Def{*d}
	}
	return value.ValidType(p, t)
}

// parts returns the types of what the values of a valid type hold: the kid of the type, or the types of the slots.
func (defs definitions) parts(t api.Type) []api.Type {
	if t.Kind != api.TDef {
		return t.Kids
	}
	slots := defs[t.Def].Slots
	l := make([]api.Type, len(slots))
	for i, s := range slots {
		l[i] = s.Type
	}
	return l
}

// isRecord reports whether a valid type is a record, not a variant, if it is a definition at all.
func (defs definitions) isRecord(t api.Type) bool { return defs[t.Def].Kind == api.KRec }
