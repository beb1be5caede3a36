package scope

import "splicery/api"

// variable is what a node of the kind NVar stands for: a slot, with n 0, or the name n of a node.
type variable struct {
	id api.ID
	n  int
}

// bindsIn returns which names a node of a kind binds in one of its kids: those from a number on up to another one, without this.
func bindsIn(kind, kid int) (from, to int) {
	switch {
	case kind == api.NLet && kid == 1:
		return 0, 1
	case kind == api.NFold && kid == 2:
		return 0, 2
	case kind == api.NMatch && kid > 0:
		return kid - 1, kid
	}
	return 0, 0
}

// isNamed reports whether a node of a kind names definitions of another kind.
func isNamed(node, kind int) bool {
	switch node {
	case api.NCall:
		return kind == api.KFun || kind == api.KConv
	case api.NRec, api.NField:
		return kind == api.KRec
	case api.NCase, api.NMatch:
		return kind == api.KCase
	}
	return false
}

// isType reports whether definitions of a kind are types.
func isType(kind int) bool {
	return kind == api.KRec || kind == api.KCase
}

// hasBody reports whether definitions of a kind have a result and a body.
func hasBody(kind int) bool {
	return kind >= api.KFun && kind <= api.KConv
}

// push hides what a key of a map has had until now by something else.
func push[K comparable, V any](m map[K][]V, key K, value V) {
	m[key] = append(m[key], value)
}

// pop takes back the last push for a key.
func pop[K comparable, V any](m map[K][]V, key K) {
	m[key] = m[key][:len(m[key])-1]
}

// top returns what a key has at present; false, if it has nothing.
func top[K comparable, V any](m map[K][]V, key K) (V, bool) {
	l := m[key]
	if len(l) == 0 {
		var none V
		return none, false
	}
	return l[len(l)-1], true
}
