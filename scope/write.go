package scope

import (
	"slices"
	"strconv"
	"strings"

	"splicery/api"
	"splicery/lex"
	"splicery/syntax"
)

// writer writes a definition that a reader has examined. If a definition that it names has no name, failed is true, and what is written does not count.
type writer struct {
	p       api.Prog
	mod     api.ID
	binders []binder
	next    int                   // the number of binders that have been written
	vars    int                   // the number of variables that have been written
	names   map[variable][]string // the local names of what is bound
	owners  map[string][]int      // the binders with a local name, those that are hidden first: they are not needed any more
	failed  bool
}

func newWriter(p api.Prog, d api.Def, r *reader) *writer {
	w := &writer{p: p, mod: d.Mod, binders: r.binders, next: len(r.slots), names: map[variable][]string{}, owners: r.slots}
	for _, s := range d.Slots {
		push(w.names, variable{id: s.ID}, s.Name)
	}
	return w
}

// form returns the form of the definition, without its layout.
func (w *writer) form(d api.Def) syntax.Form {
	f := syntax.Form{Kind: d.Kind, Name: d.Name}
	for _, s := range d.Slots {
		x := syntax.Field{Name: s.Name, Type: w.word(s.Type)}
		if d.Kind == api.KTest {
			x.Most = s.Most
		}
		f.Slots = append(f.Slots, x)
	}
	if hasBody(d.Kind) {
		f.Result = w.word(d.Result)
		f.Body = w.body(d.Body)
	}
	return f
}

// body returns the term of a body. The kids are visited in the order in which the reader has read them.
func (w *writer) body(e api.Expr) syntax.Term {
	var write func(e api.Expr) syntax.Term
	write = func(e api.Expr) syntax.Term {
		if e.Kind == api.NVar {
			w.vars++
			name, _ := top(w.names, variable{e.Ref, e.N})
			return syntax.Term{Kind: e.Kind, Name: name}
		}
		var kids []syntax.Term
		var names []string
		for i, kid := range e.Kids {
			from, to := bindsIn(e.Kind, i)
			for n := from; n < to; n++ {
				names = append(names, w.bind(variable{e.ID, n}, e.Names[n]))
			}
			kids = append(kids, write(kid))
			for n := from; n < to; n++ {
				pop(w.names, variable{e.ID, n})
				pop(w.owners, names[n])
			}
		}
		return w.term(e, kids, names)
	}
	return write(e)
}

// bind gives the next binder a local name, and returns it.
func (w *writer) bind(v variable, name string) string {
	name = w.local(name, w.binders[w.next].end)
	push(w.names, v, name)
	push(w.owners, name, w.next)
	w.next++
	return name
}

// local returns the first name of those that can be made of a name that hides no variable which is needed up to the end of the kid.
func (w *writer) local(name string, end int) string {
	free := name
	for i := 1; w.hides(free, end); i++ {
		number := strconv.Itoa(i)
		free = name[:min(len(name), api.MaxName-len(number))] + number
	}
	return free
}

// hides reports whether a name would hide a variable between here and the end of a kid.
func (w *writer) hides(name string, end int) bool {
	number, ok := top(w.owners, name)
	return ok && w.binders[number].neededIn(w.vars, end)
}

// term returns the term of a node that is no variable, with the local names that it binds.
func (w *writer) term(e api.Expr, kids []syntax.Term, names []string) syntax.Term {
	t := syntax.Term{Kind: e.Kind, Kids: kids, Names: names}
	switch e.Kind {
	case api.NInt, api.NBool, api.NOp:
		t.N = e.N
	case api.NList:
		t.Type = w.word(e.Type)
	case api.NCall, api.NRec, api.NField, api.NCase, api.NMatch:
		t.Name = w.name(e.Ref)
		t.Field, t.Names = w.members(e, names)
	}
	return t
}

// members returns the names of slots that a node has: that of its field or case, or those of all slots, of a match with the names that it binds.
func (w *writer) members(e api.Expr, names []string) (string, []string) {
	d, _ := definition(w.p, e.Ref)
	if e.Kind == api.NField || e.Kind == api.NCase {
		return d.Slots[e.N].Name, nil
	}
	var all []string
	for i, s := range d.Slots {
		switch e.Kind {
		case api.NRec:
			all = append(all, s.Name)
		case api.NMatch:
			all = append(all, s.Name, names[i])
		}
	}
	return "", all
}

// word returns a type as it is written.
func (w *writer) word(t api.Type) syntax.Word {
	switch t.Kind {
	case api.TBool:
		return syntax.Word{Name: "Bool"}
	case api.TList:
		return syntax.Word{Name: "List", Kids: []syntax.Word{w.word(t.Kids[0])}}
	case api.TDef:
		return syntax.Word{Name: w.name(t.Def)}
	}
	return syntax.Word{Name: "Int"}
}

// name returns the name of a definition in the module. It fails, if it has none, or one that begins with a keyword: Int would be read as the numbers, though a definition has this name.
func (w *writer) name(id api.ID) string {
	name := Name(w.p, w.mod, id)
	if first, _, _ := strings.Cut(name, "."); !lex.Word(first) {
		w.failed = true
	}
	return name
}

// usable reports whether tokens with a layout are read as they are, up to the end of a line.
func usable(layout, tokens []string) bool {
	if len(layout) != len(tokens)+1 {
		return false
	}
	var l []lex.Token
	for i, s := range tokens {
		l = append(l, lex.Token{Text: s, Before: layout[i]})
	}
	last := layout[len(tokens)]
	read, end, at := lex.Scan(lex.Text(l, last))
	return at == -1 && end == last && slices.Equal(read, l) && strings.HasSuffix(last, "\n") && strings.Count(last, "\n") == 1
}
