package scope

import (
	"slices"

	"splicery/api"
	"splicery/syntax"
)

// binding resolves the names of a proper form. Once one of them does not stand for what it has to, failed is true, and what is made does not count.
type binding struct {
	p      api.Prog
	mod    api.ID
	ids    []api.ID
	bound  map[string][]variable // what the names of variables stand for, those that are hidden first
	failed bool
}

func newBinding(p api.Prog, mod api.ID, ids []api.ID) *binding {
	return &binding{p: p, mod: mod, ids: ids, bound: map[string][]variable{}}
}

// id returns an ID of the list; the zero ID, if it has too few.
func (b *binding) id(i int) api.ID {
	if i < len(b.ids) {
		return b.ids[i]
	}
	return api.ID{}
}

// definition returns the definition of a form, and how many IDs it needs.
func (b *binding) definition(f syntax.Form) (api.Def, int) {
	d := api.Def{ID: b.id(0), Kind: f.Kind, Mod: b.mod, Name: f.Name, Layout: slices.Clone(f.Layout)}
	used := 1
	for i, s := range f.Slots {
		if _, twice := top(b.bound, s.Name); twice {
			b.failed = true
		}
		push(b.bound, s.Name, variable{id: b.id(used)})
		d.Slots = append(d.Slots, api.Slot{ID: b.id(used), Name: s.Name, Type: b.typeOf(s.Type), Most: s.Most, Place: i})
		used++
	}
	if hasBody(f.Kind) {
		used += count(f.Body)
		d.Result = b.typeOf(f.Result)
		d.Body = b.body(f.Body, used)
	}
	return d, used
}

// body returns the expression of a term, whose nodes have the IDs before a number. They get them from the last one on: a node is behind its kids in postorder, but the variables in its kids need its ID.
func (b *binding) body(t syntax.Term, number int) api.Expr {
	var bind func(t syntax.Term) api.Expr
	bind = func(t syntax.Term) api.Expr {
		number--
		e, kids := b.content(t)
		e.ID = b.id(number)
		if len(kids) > 0 {
			e.Kids = make([]api.Expr, len(kids))
		}
		for i, kid := range slices.Backward(kids) {
			from, to := bindsIn(e.Kind, i)
			for n := from; n < to; n++ {
				push(b.bound, e.Names[n], variable{e.ID, n})
			}
			e.Kids[i] = bind(kid)
			for n := from; n < to; n++ {
				pop(b.bound, e.Names[n])
			}
		}
		return e
	}
	return bind(t)
}

// content returns the node of a term without its ID and its kids, and the terms of these, in order.
func (b *binding) content(t syntax.Term) (api.Expr, []syntax.Term) {
	e := api.Expr{Kind: t.Kind}
	switch t.Kind {
	case api.NInt, api.NBool, api.NOp:
		e.N = t.N
	case api.NVar:
		v := b.variable(t.Name)
		e.Ref, e.N = v.id, v.n
	case api.NCall:
		e.Ref = b.named(t).ID
	case api.NField, api.NCase:
		d := b.named(t)
		e.Ref, e.N = d.ID, b.place(d, t.Field)
	case api.NRec:
		return b.record(t)
	case api.NMatch:
		return b.match(t)
	case api.NList:
		e.Type = b.typeOf(t.Type)
	case api.NLet, api.NFold:
		e.Names = slices.Clone(t.Names)
	}
	return e, t.Kids
}

// record returns the node and the kids of a record.
func (b *binding) record(t syntax.Term) (api.Expr, []syntax.Term) {
	d := b.named(t)
	var kids []syntax.Term
	for _, i := range b.order(d, t.Names) {
		kids = append(kids, t.Kids[i])
	}
	return api.Expr{Kind: t.Kind, Ref: d.ID}, kids
}

// match returns the node and the kids of a match.
func (b *binding) match(t syntax.Term) (api.Expr, []syntax.Term) {
	d := b.named(t)
	e, kids := api.Expr{Kind: t.Kind, Ref: d.ID}, t.Kids[:1:1]
	var cases []string
	for i := 0; i < len(t.Names); i += 2 {
		cases = append(cases, t.Names[i])
	}
	for _, i := range b.order(d, cases) {
		e.Names = append(e.Names, t.Names[2*i+1])
		kids = append(kids, t.Kids[1+i])
	}
	return e, kids
}

// order returns for each slot of a definition the place of its name in a list; it fails, if the names are not those of the slots, each once.
func (b *binding) order(d api.Def, names []string) []int {
	order, seen := make([]int, len(d.Slots)), make([]bool, len(d.Slots))
	for i, name := range names {
		place := b.place(d, name)
		if b.failed || seen[place] {
			b.failed = true
			return nil
		}
		order[place], seen[place] = i, true
	}
	if len(names) != len(d.Slots) {
		b.failed = true
		return nil
	}
	return order
}

// place returns the place of the slot with a name; it fails, if there is not exactly one.
func (b *binding) place(d api.Def, name string) int {
	var places []int
	for i, s := range d.Slots {
		if s.Name == name {
			places = append(places, i)
		}
	}
	if len(places) != 1 {
		b.failed = true
		return 0
	}
	return places[0]
}

// variable returns what the name of a variable stands for.
func (b *binding) variable(name string) variable {
	v, ok := top(b.bound, name)
	if !ok {
		b.failed = true
	}
	return v
}

// named returns the definition that a term names.
func (b *binding) named(t syntax.Term) api.Def {
	return b.meant(t.Name, func(kind int) bool { return isNamed(t.Kind, kind) })
}

// meant returns the definition of the right kind that a name stands for; it fails, if there is not exactly one.
func (b *binding) meant(name string, right func(kind int) bool) api.Def {
	var l []api.Def
	for _, id := range Find(b.p, b.mod, name) {
		if d, ok := definition(b.p, id); ok && right(d.Kind) {
			l = append(l, d)
		}
	}
	if len(l) != 1 {
		b.failed = true
		return api.Def{}
	}
	return l[0]
}

// typeOf returns the type that is written so.
func (b *binding) typeOf(w syntax.Word) api.Type {
	switch w.Name {
	case "Int":
		return api.Type{Kind: api.TInt}
	case "Bool":
		return api.Type{Kind: api.TBool}
	case "List":
		return api.Type{Kind: api.TList, Kids: []api.Type{b.typeOf(w.Kids[0])}}
	}
	return api.Type{Kind: api.TDef, Def: b.meant(w.Name, isType).ID}
}

// count returns the number of nodes of a term.
func count(t syntax.Term) int {
	n := 1
	for _, kid := range t.Kids {
		n += count(kid)
	}
	return n
}
