package normal_test

import (
	"slices"
	"strconv"

	"splicery/api"
	"splicery/eval"
	"splicery/hash"
	"splicery/wire"
)

// binding reports whether nodes of a kind bind names.
func binding(kind int) bool { return kind == api.NLet || kind == api.NFold || kind == api.NMatch }

// bindsIn reports whether a node binds a name with its ID and n in its kid i.
func bindsIn(e api.Expr, i, n int) bool {
	switch e.Kind {
	case api.NLet:
		return i == 1 && n == 0
	case api.NFold:
		return i == 2 && (n == 0 || n == 1)
	case api.NMatch:
		return i > 0 && n == i-1
	}
	return false
}

// rule follows the words of the chapter. A variable belongs to the innermost node around it that has its Ref and binds its N where it is.
type rule struct {
	hidden bool           // whether a step would have made a node bind a variable of another one: then the result means nothing
	steps  map[string]int // how often each line of the table has been followed
}

// normal returns the normal form of an expression.
func (r *rule) normal(e api.Expr) api.Expr {
	kids := e.Kids
	e.Kids = nil
	for _, kid := range kids {
		e.Kids = append(e.Kids, r.normal(kid))
	}
	if next, line := r.step(e); line != "" {
		if r.steps != nil {
			r.steps[line]++
		}
		return r.normal(next)
	}
	return e
}

func literal(e api.Expr) bool { return e.Kind == api.NInt || e.Kind == api.NBool }

// step returns what an expression becomes by a step at the root, and a name of the line of the table; no name, if none is possible.
func (r *rule) step(e api.Expr) (api.Expr, string) {
	if e.Kind != api.NOp {
		return r.stepOf(e)
	}
	var l []api.Value
	for _, kid := range e.Kids {
		if literal(kid) {
			l = append(l, api.Value{Kind: kid.Kind, N: kid.N}) // VInt and VBool are NInt and NBool
		}
	}
	if len(l) == len(e.Kids) {
		v := eval.Op(e.N, l)
		return api.Expr{Kind: v.Kind, N: v.N}, "literals of " + strconv.Itoa(e.N)
	}
	if e.N == api.Not {
		if kid := e.Kids[0]; kid.Kind == api.NOp && kid.N == api.Not {
			return kid.Kids[0], "not not"
		}
		return e, ""
	}
	if e.N == api.Len {
		return e, ""
	}
	a, b := e.Kids[0], e.Kids[1]
	for i, x := range []api.Expr{a, b} {
		other, place := e.Kids[1-i], strconv.Itoa(i)
		switch {
		case e.N == api.And && literal(x) && x.N == 1, e.N == api.Or && literal(x) && x.N == 0:
			return other, "decides nothing " + strconv.Itoa(e.N) + " " + place
		case e.N == api.And && literal(x), e.N == api.Or && literal(x):
			return api.Expr{Kind: api.NBool, N: x.N}, "decides " + strconv.Itoa(e.N) + " " + place
		case e.N == api.Add && x.Kind == api.NInt && x.N == 0:
			return other, "add 0 " + place
		case e.N == api.Sub && i == 1 && x.Kind == api.NInt && x.N == 0:
			return other, "sub 0"
		case e.N == api.Mul && x.Kind == api.NInt && x.N == 1:
			return other, "mul 1 " + place
		}
	}
	if slices.Contains([]int{api.Add, api.Mul, api.Same, api.And, api.Or}, e.N) && slices.Compare(plain.key(b), plain.key(a)) < 0 {
		e.Kids = []api.Expr{b, a}
		return e, "exchange " + strconv.Itoa(e.N)
	}
	return e, ""
}

// stepOf is step for the other kinds of nodes.
func (r *rule) stepOf(e api.Expr) (api.Expr, string) {
	switch e.Kind {
	case api.NIf:
		switch c := e.Kids[0]; {
		case c.Kind == api.NBool && c.N == 1:
			return e.Kids[1], "if true"
		case c.Kind == api.NBool:
			return e.Kids[2], "if false"
		case slices.Equal(plain.key(e.Kids[1]), plain.key(e.Kids[2])):
			return e.Kids[1], "if the same"
		}
	case api.NLet:
		a, b := e.Kids[0], e.Kids[1]
		switch {
		case literal(a):
			return r.replaced(b, e.ID, 0, a), "let literal"
		case a.Kind == api.NVar:
			return r.replaced(b, e.ID, 0, a), "let variable"
		case !has(b, e.ID, 0):
			return b, "let without"
		}
	case api.NField:
		if kid := e.Kids[0]; kid.Kind == api.NRec {
			return kid.Kids[e.N], "field"
		}
	case api.NMatch:
		if kid := e.Kids[0]; kid.Kind == api.NCase {
			n := kid.N
			branch := e.Kids[1+n]
			r.hidden = r.hidden || n > 0 && has(branch, e.ID, 0)
			return api.Expr{ID: e.ID, Kind: api.NLet, Names: e.Names[n : n+1], Kids: []api.Expr{kid.Kids[0], r.replaced(branch, e.ID, n, api.Expr{Kind: api.NVar, Ref: e.ID})}}, "match"
		}
	}
	return e, ""
}

// has reports whether an expression has a variable with a Ref and N that it does not bind itself.
func has(e api.Expr, id api.ID, n int) bool {
	if e.Kind == api.NVar && e.Ref == id && e.N == n {
		return true
	}
	for i, kid := range e.Kids {
		if !(e.ID == id && bindsIn(e, i, n)) && has(kid, id, n) {
			return true
		}
	}
	return false
}

// replaced returns an expression with another one in the place of each variable with a Ref and N that it does not bind itself.
func (r *rule) replaced(e api.Expr, id api.ID, n int, by api.Expr) api.Expr {
	if e.Kind == api.NVar && e.Ref == id && e.N == n {
		return by
	}
	kids := e.Kids
	e.Kids = nil
	for i, kid := range kids {
		if !(e.ID == id && bindsIn(e, i, n)) {
			if by.Kind == api.NVar && e.ID == by.Ref && bindsIn(e, i, by.N) && has(kid, id, n) {
				r.hidden = true
			}
			kid = r.replaced(kid, id, n, by)
		}
		e.Kids = append(e.Kids, kid)
	}
	return e
}

// keys writes keys, with what stands for definitions and for slots.
type keys struct {
	def, slot func(api.ID) []int
}

func numbers(id api.ID) []int { return []int{id.Shop, id.Seq, id.Index} }

// plain writes the keys of the chapter.
var plain = keys{numbers, numbers}

// key returns the key of an expression.
func (k keys) key(e api.Expr) []int { return k.inside(e, nil) }

// around is a node around another one, and the kid of it in which this is.
type around struct {
	e   api.Expr
	kid int
}

// inside returns the key of a part of an expression, which has these nodes around it, the innermost one last.
func (k keys) inside(e api.Expr, l []around) []int {
	key := []int{e.Kind, e.N}
	switch e.Kind {
	case api.NVar:
		between, bound := 0, false
		for i := len(l) - 1; i >= 0 && !bound; i-- {
			switch x := l[i]; {
			case x.e.ID == e.Ref && bindsIn(x.e, x.kid, e.N):
				bound = true
			case binding(x.e.Kind):
				between++
			}
		}
		if bound {
			key = append(key, 1, between)
		} else {
			key = append(append(key, 0), k.slot(e.Ref)...)
		}
	case api.NCall, api.NRec, api.NField, api.NCase, api.NMatch:
		key = append(key, k.def(e.Ref)...)
	case api.NList:
		key = append(key, k.typ(e.Type)...)
	}
	key = append(key, len(e.Kids))
	for i, kid := range e.Kids {
		key = append(key, k.inside(kid, append(slices.Clone(l), around{e, i}))...)
	}
	return key
}

// typ returns what is written for a type.
func (k keys) typ(t api.Type) []int {
	l := []int{t.Kind}
	if t.Kind == api.TDef {
		l = append(l, k.def(t.Def)...)
	}
	l = append(l, len(t.Kids))
	for _, kid := range t.Kids {
		l = append(l, k.typ(kid)...)
	}
	return l
}

// firstByRule returns the first definition with an ID.
func firstByRule(p api.Prog, id api.ID) (api.Def, bool) {
	i := slices.IndexFunc(p.Defs, func(d api.Def) bool { return d.ID == id })
	if i < 0 {
		return api.Def{}, false
	}
	return p.Defs[i], true
}

func bodyByRule(d api.Def) bool {
	return slices.Contains([]int{api.KFun, api.KOn, api.KTest, api.KConv}, d.Kind)
}

// namedByRule returns what a definition names, in order.
func namedByRule(d api.Def) []api.ID {
	var l []api.ID
	var typ func(api.Type)
	typ = func(t api.Type) {
		if t.Kind == api.TDef {
			l = append(l, t.Def)
		}
		for _, kid := range t.Kids {
			typ(kid)
		}
	}
	var node func(api.Expr)
	node = func(e api.Expr) {
		if slices.Contains([]int{api.NCall, api.NRec, api.NField, api.NCase, api.NMatch}, e.Kind) {
			l = append(l, e.Ref)
		}
		if e.Kind == api.NList {
			typ(e.Type)
		}
		for _, kid := range e.Kids {
			node(kid)
		}
	}
	for _, s := range d.Slots {
		typ(s.Type)
	}
	if bodyByRule(d) {
		typ(d.Result)
		node(d.Body)
	}
	return l
}

// errorByRule returns the first error that is found if what a definition names is followed, on the way from others.
func errorByRule(p api.Prog, id api.ID, way []api.ID) api.Errno {
	d, ok := firstByRule(p, id)
	if !ok {
		return api.ErrNone
	}
	if slices.Contains(way, id) {
		return api.ErrCycle
	}
	var seen []api.ID // what has been followed without an error has none
	for _, x := range namedByRule(d) {
		if slices.Contains(seen, x) {
			continue
		}
		seen = append(seen, x)
		if e := errorByRule(p, x, append(slices.Clone(way), id)); e != api.OK {
			return e
		}
	}
	return api.OK
}

// digestNumbers returns the 16 numbers of a digest.
func digestNumbers(x api.Digest) []int {
	var l []int
	for _, b := range x {
		l = append(l, int(b))
	}
	return l
}

// meaningByRule returns the meaning of a definition, all of whose names lead to others without an end.
func meaningByRule(p api.Prog, id api.ID) api.Digest {
	d, _ := firstByRule(p, id)
	k := keys{
		func(x api.ID) []int { return digestNumbers(meaningByRule(p, x)) },
		func(x api.ID) []int {
			for i, s := range d.Slots {
				if s.ID == x {
					return []int{-1, i, 0}
				}
			}
			return numbers(x)
		},
	}
	l := []int{d.Kind, len(d.Slots)}
	for _, s := range d.Slots {
		l = append(l, k.typ(s.Type)...)
		if d.Kind == api.KTest {
			l = append(l, s.Most)
		}
	}
	if bodyByRule(d) {
		l = append(l, k.typ(d.Result)...)
		l = append(l, k.key((&rule{}).normal(d.Body))...)
	}
	return digestOf(l...)
}

// digestOf returns the digest of the numbers of a meaning.
func digestOf(l ...int) api.Digest { return hash.Of(api.TagMeaning, string(wire.Ints(l))) }

// sameByRule says whether two expressions of sound programs are the same.
func sameByRule(p api.Prog, a api.Expr, q api.Prog, b api.Expr) bool {
	key := func(p api.Prog, e api.Expr) []int {
		k := keys{func(x api.ID) []int { return digestNumbers(meaningByRule(p, x)) }, numbers}
		return k.key((&rule{}).normal(e))
	}
	return slices.Equal(key(p, a), key(q, b))
}

// coneByRule returns the cone of a definition.
func coneByRule(p api.Prog, id api.ID) []api.ID {
	var l []api.ID
	for next := []api.ID{id}; len(next) > 0; next = next[1:] {
		if d, ok := firstByRule(p, next[0]); ok && !slices.Contains(l, d.ID) {
			l = append(l, d.ID)
			next = append(next, namedByRule(d)...)
		}
	}
	return sorted(l)
}
