package normal

import (
	"splicery/api"
	"splicery/hash"
	"splicery/steps"
	"splicery/wire"
)

// meaning is what is known of the meaning of a definition: the digest or the error.
type meaning struct {
	digest api.Digest
	code   api.Errno
}

// meanings finds the meanings of the definitions of a program, each once.
type meanings struct {
	defs  map[api.ID]*api.Def
	known map[api.ID]meaning
}

// meaningsOf returns the meanings of a program, none of which is known yet.
func meaningsOf(p api.Prog) meanings { return meanings{steps.Defs(p), map[api.ID]meaning{}} }

// of returns the meaning of a definition.
func (m meanings) of(id api.ID) (api.Digest, api.Errno) {
	if x, ok := m.known[id]; ok {
		return x.digest, x.code
	}
	d := m.defs[id]
	if d == nil {
		return api.Digest{}, api.ErrNone
	}
	m.known[id] = meaning{code: api.ErrCycle} // what asks for it before it is known is what it depends on
	code := m.check(d)
	x := meaning{code: code}
	if code == api.OK {
		x.digest = m.digest(d)
	}
	m.known[id] = x
	return x.digest, x.code
}

// check returns the first error of the definitions that a definition names.
func (m meanings) check(d *api.Def) api.Errno {
	for _, id := range named(d) {
		if _, e := m.of(id); e != api.OK {
			return e
		}
	}
	return api.OK
}

// named returns the IDs of the definitions that a definition names, in the order in which it names them.
func named(d *api.Def) []api.ID {
	var l []api.ID
	var inType func(t *api.Type)
	inType = func(t *api.Type) {
		if t.Kind == api.TDef {
			l = append(l, t.Def)
		}
		for i := range t.Kids {
			inType(&t.Kids[i])
		}
	}
	var inNode func(e *api.Expr)
	inNode = func(e *api.Expr) {
		switch e.Kind {
		case api.NCall, api.NRec, api.NField, api.NCase, api.NMatch:
			l = append(l, e.Ref)
		case api.NList:
			inType(&e.Type)
		}
		for i := range e.Kids {
			inNode(&e.Kids[i])
		}
	}
	for i := range d.Slots {
		inType(&d.Slots[i].Type)
	}
	if steps.HasBody(d) {
		inType(&d.Result)
		inNode(&d.Body)
	}
	return l
}

// digest returns the digest of a definition, if it names only definitions that have a meaning.
func (m meanings) digest(d *api.Def) api.Digest {
	places := map[api.ID]int{}
	for i := len(d.Slots) - 1; i >= 0; i-- { // of several slots with the same ID the first one counts
		places[d.Slots[i].ID] = i
	}
	k := keys{m.appendMeaning, func(l []int, id api.ID) []int {
		if i, ok := places[id]; ok {
			return append(l, -1, i, 0)
		}
		return appendID(l, id)
	}}
	l := []int{d.Kind, len(d.Slots)}
	for _, s := range d.Slots {
		l = k.appendType(l, s.Type)
		if d.Kind == api.KTest {
			l = append(l, s.Most)
		}
	}
	if steps.HasBody(d) {
		l = append(k.appendType(l, d.Result), k.key(normalForm(d.Body))...)
	}
	return hash.Of(api.TagMeaning, string(wire.Ints(l)))
}

// key returns the key of the normal form of an expression, with meanings for definitions.
func (m meanings) key(e api.Expr) []int {
	return keys{m.appendMeaning, appendID}.key(normalForm(e))
}

// appendMeaning appends the bytes of the meaning of a definition, or, if it has none, its ID.
func (m meanings) appendMeaning(l []int, id api.ID) []int {
	digest, e := m.of(id)
	if e != api.OK {
		return appendID(l, id)
	}
	for _, b := range digest {
		l = append(l, int(b))
	}
	return l
}
