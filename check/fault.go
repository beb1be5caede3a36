package check

import (
	"splicery/api"
	"splicery/types"
	"splicery/value"
)

// mostInput is the greatest bound of the domain of an input.
const mostInput = 64

// conflicts returns the error of the definition with an ID as a list of one element; an empty one, if it has none.
func (x index) conflicts(id api.ID) []api.Conflict {
	code, on := x.fault(x[id])
	if code == api.OK {
		return nil
	}
	return []api.Conflict{{Code: code, On: on, Kind: api.OpKinds, By: []api.ID{id}}}
}

// fault returns the error of a definition, and the ID on which it is.
func (x index) fault(d *api.Def) (api.Errno, api.ID) {
	if d.Kind < api.KRec || d.Kind > api.KConv {
		return api.ErrArg, d.ID
	}
	p := x.around(d)
	for _, s := range d.Slots {
		if !value.ValidType(p, s.Type) {
			return api.ErrDead, s.ID
		}
	}
	if !hasBody(d) {
		if len(d.Slots) == 0 {
			return api.ErrNeed, d.ID
		}
		return api.OK, api.ID{}
	}
	for _, s := range d.Slots {
		if d.Kind == api.KTest && (s.Most < 0 || s.Most > mostInput) {
			return api.ErrRange, s.ID
		}
	}
	if !value.ValidType(p, d.Result) {
		return api.ErrDead, d.ID
	}
	if d.Kind == api.KConv && len(d.Slots) != 1 || d.Kind == api.KOn && !x.isHandler(d) {
		return api.ErrArg, d.ID
	}
	on, code := types.Fits(p, bound(d.Slots), d.Body, d.Result)
	return code, on
}

// around returns the program of the definitions that d names: no others count for its error, and among these few each is found at once.
func (x index) around(d *api.Def) api.Prog {
	var p api.Prog
	seen := map[api.ID]bool{}
	visitNamed(d, func(id api.ID) {
		if other := x[id]; other != nil && !seen[id] {
			p.Defs = append(p.Defs, *other)
			seen[id] = true
		}
	})
	return p
}

// isHandler reports whether a machine can run a definition: it makes a state, signals and a time of a state and an event, of which the first case is the timer.
func (x index) isHandler(d *api.Def) bool {
	if len(d.Slots) != 2 {
		return false
	}
	event, result := x.data(d.Slots[1].Type, api.KCase), x.data(d.Result, api.KRec)
	if event == nil || len(event.Slots) == 0 || result == nil || len(result.Slots) != 3 {
		return false
	}
	number := api.Type{Kind: api.TInt}
	numbers := api.Type{Kind: api.TList, Kids: []api.Type{number}}
	r := result.Slots
	return value.SameType(event.Slots[0].Type, number) &&
		value.SameType(r[0].Type, d.Slots[0].Type) && value.SameType(r[1].Type, numbers) && value.SameType(r[2].Type, number)
}

// data returns the definition of a kind for which a type stands; nil, if it stands for none.
func (x index) data(t api.Type, kind int) *api.Def {
	if t.Kind != api.TDef {
		return nil
	}
	d := x[t.Def]
	if d == nil || d.Kind != kind {
		return nil
	}
	return d
}

// bound returns what slots bind.
func bound(l []api.Slot) []types.Bound {
	var b []types.Bound
	for _, s := range l {
		b = append(b, types.Bound{ID: s.ID, Type: s.Type})
	}
	return b
}
