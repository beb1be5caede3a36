package scope_test

import (
	"maps"
	"reflect"
	"slices"
	"strconv"
	"strings"
	"testing"

	"splicery/api"
	"splicery/lex"
	"splicery/scope"
	"splicery/syntax"
)

// numbered returns a name with a number behind it, by the words of the chapter.
func numbered(name string, n int) string {
	number := strconv.Itoa(n)
	for len(name)+len(number) > 16 {
		name = name[:len(name)-1]
	}
	return name + number
}

// boundAgain checks P8.6 for a definition with the ID 100 that has a form.
func boundAgain(t *testing.T, p api.Prog, d api.Def) {
	t.Helper()
	f := unbound(t, p, d)
	all := nodes(d.Body)
	next := append([]api.ID{d.ID}, ids(5000, len(d.Slots)+len(all))...)
	again, _, e := scope.Bind(with(p, d), d.Mod, f, next)
	if e != api.OK {
		t.Fatalf("P8.6: Bind of the form of %+v fails with %d", d, e)
	}
	corresponding := map[api.ID]api.ID{}
	for i, s := range again.Slots {
		corresponding[s.ID] = d.Slots[i].ID
	}
	for i, x := range nodes(again.Body) {
		corresponding[x.ID] = all[i].ID
	}
	if again.Kind != d.Kind || again.Name != d.Name || len(again.Slots) != len(d.Slots) || !sameType(again.Result, d.Result) {
		t.Fatalf("P8.6: %+v becomes %+v", d, again)
	}
	for i, s := range again.Slots {
		if s.Name != d.Slots[i].Name || !sameType(s.Type, d.Slots[i].Type) {
			t.Fatalf("P8.6: the slots %+v become %+v", d.Slots, again.Slots)
		}
	}
	if !sameNodes(again.Body, d.Body, corresponding) {
		t.Fatalf("P8.6: the body %s becomes %s", show(d.Body), show(again.Body))
	}
	if g, e := scope.Unbind(with(p, again), again.ID); e != api.OK || !reflect.DeepEqual(g, f) {
		t.Fatalf("P8.6: the form %s becomes %s, %d", written(f), written(g), e)
	}
}

func sameType(a, b api.Type) bool {
	if a.Kind != b.Kind || a.Def != b.Def || len(a.Kids) != len(b.Kids) {
		return false
	}
	for i := range a.Kids {
		if !sameType(a.Kids[i], b.Kids[i]) {
			return false
		}
	}
	return true
}

// sameNodes reports whether expressions are equal but for their IDs and names, where variables stand for corresponding nodes.
func sameNodes(a, b api.Expr, corresponding map[api.ID]api.ID) bool {
	if a.Kind == api.NVar {
		a.Ref = corresponding[a.Ref]
	}
	if a.Kind != b.Kind || a.N != b.N || a.Ref != b.Ref || !sameType(a.Type, b.Type) || len(a.Kids) != len(b.Kids) || len(a.Names) != len(b.Names) {
		return false
	}
	for i := range a.Kids {
		if !sameNodes(a.Kids[i], b.Kids[i], corresponding) {
			return false
		}
	}
	return true
}

// firstMod returns the module with an ID by the words of the chapter.
func firstMod(p api.Prog, n api.ID) (api.Mod, bool) {
	i := slices.IndexFunc(p.Mods, func(m api.Mod) bool { return m.ID == n })
	if i < 0 {
		return api.Mod{}, false
	}
	return p.Mods[i], true
}

// firstDef returns the definition with an ID by the words of the chapter.
func firstDef(p api.Prog, n api.ID) (api.Def, bool) {
	i := slices.IndexFunc(p.Defs, func(d api.Def) bool { return d.ID == n })
	if i < 0 {
		return api.Def{}, false
	}
	return p.Defs[i], true
}

// findByRule returns what a name stands for by the words of the chapter.
func findByRule(p api.Prog, mod api.ID, name string) []api.ID {
	m, ok := firstMod(p, mod)
	if !ok {
		return nil
	}
	here := func(d api.Def) bool { return d.Mod == mod && d.Name == name }
	there := func(d api.Def) bool {
		_, ok := firstMod(p, d.Mod)
		return ok && slices.Contains(m.Uses, d.Mod) && d.Mod != mod && d.Name == name
	}
	if k, f, ok := strings.Cut(name, "."); ok {
		here = func(d api.Def) bool {
			in, ok := firstMod(p, d.Mod)
			return ok && (d.Mod == mod || slices.Contains(m.Uses, d.Mod)) && in.Name == k && d.Name == f
		}
		there = func(api.Def) bool { return false }
	}
	for _, fits := range []func(api.Def) bool{here, there} {
		all := map[api.ID]bool{}
		for _, d := range p.Defs {
			if fits(d) {
				all[d.ID] = true
			}
		}
		l := slices.Collect(maps.Keys(all))
		slices.SortFunc(l, func(a, b api.ID) int {
			return slices.Compare([]int{a.Shop, a.Seq, a.Index}, []int{b.Shop, b.Seq, b.Index})
		})
		if len(l) > 0 {
			return l
		}
	}
	return nil
}

// nameByRule returns the own name of a definition by the words of the chapter.
func nameByRule(p api.Prog, mod, n api.ID) string {
	d, ok := firstDef(p, n)
	if !ok {
		return ""
	}
	names := []string{d.Name}
	if k, ok := firstMod(p, d.Mod); ok {
		names = append(names, k.Name+"."+d.Name)
	}
	for _, s := range names {
		if l := findByRule(p, mod, s); len(l) == 1 && l[0] == n {
			return s
		}
	}
	return ""
}

// own is a name that is bound: that with the number n of the node (or slot) id.
type own struct {
	id    api.ID
	n     int
	local string
}

// bindsByRule returns the numbers of the names that a node binds in a kid.
func bindsByRule(kind, kid int) []int {
	switch {
	case kind == api.NLet && kid == 1:
		return []int{0}
	case kind == api.NFold && kid == 2:
		return []int{0, 1}
	case kind == api.NMatch && kid >= 1:
		return []int{kid - 1}
	}
	return nil
}

// innermost returns the last of some names with an ID and a number.
func innermost(l []own, n api.ID, number int) (own, bool) {
	for _, x := range slices.Backward(l) {
		if x.id == n && x.n == number {
			return x, true
		}
	}
	return own{}, false
}

// rightKinds has the kinds of the definitions that a node of a kind names.
func rightKinds(kind int) []int {
	return map[int][]int{api.NCall: {api.KFun, api.KConv}, api.NRec: {api.KRec}, api.NField: {api.KRec}, api.NCase: {api.KCase}, api.NMatch: {api.KCase}}[kind]
}

// deadType reports whether a type is none of those that may be written.
func deadType(p api.Prog, x api.Type) bool {
	switch {
	case x.Kind == api.TInt, x.Kind == api.TBool:
		return false
	case x.Kind == api.TList && len(x.Kids) == 1:
		return deadType(p, x.Kids[0])
	case x.Kind == api.TDef:
		d, ok := firstDef(p, x.Def)
		return !ok || d.Kind != api.KRec && d.Kind != api.KCase
	}
	return true
}

// deadNode reports whether one of the nodes of an expression is wrong.
func deadNode(p api.Prog, e api.Expr, around []own) bool {
	kids, names := map[int]int{api.NInt: 0, api.NBool: 0, api.NVar: 0, api.NIf: 3, api.NLet: 2, api.NFold: 3, api.NField: 1, api.NCase: 1, api.NList: len(e.Kids), api.NOp: 2}, map[int]int{api.NLet: 1, api.NFold: 2}
	if e.Kind == api.NOp && (e.N == api.Not || e.N == api.Len) {
		kids[api.NOp] = 1
	}
	if right := rightKinds(e.Kind); right != nil {
		d, ok := firstDef(p, e.Ref)
		if !ok || !slices.Contains(right, d.Kind) {
			return true
		}
		kids[api.NCall], kids[api.NRec], kids[api.NMatch], names[api.NMatch] = len(d.Slots), len(d.Slots), len(d.Slots)+1, len(d.Slots)
		if e.Kind == api.NMatch && len(d.Slots) == 0 || (e.Kind == api.NField || e.Kind == api.NCase) && (e.N < 0 || e.N >= len(d.Slots)) {
			return true
		}
	}
	n, ok := kids[e.Kind]
	if !ok || n != len(e.Kids) || names[e.Kind] != len(e.Names) {
		return true
	}
	_, isBound := innermost(around, e.Ref, e.N)
	if e.Kind == api.NInt && (e.N > 1<<40 || e.N < -1<<40) || e.Kind == api.NBool && e.N != 0 && e.N != 1 || e.Kind == api.NOp && (e.N < api.Add || e.N > api.Len) || e.Kind == api.NVar && !isBound || e.Kind == api.NList && deadType(p, e.Type) {
		return true
	}
	for i, kid := range e.Kids {
		inside := slices.Clone(around)
		for _, n := range bindsByRule(e.Kind, i) {
			inside = append(inside, own{e.ID, n, ""})
		}
		if deadNode(p, kid, inside) {
			return true
		}
	}
	return false
}

// occurring returns the variables of an expression that none of its nodes, nor an element of the list inner, binds.
func occurring(e api.Expr, inner []own) []own {
	if e.Kind == api.NVar {
		if _, ok := innermost(inner, e.Ref, e.N); ok {
			return nil
		}
		return []own{{e.Ref, e.N, ""}}
	}
	var l []own
	for i, kid := range e.Kids {
		inside := slices.Clone(inner)
		for _, n := range bindsByRule(e.Kind, i) {
			inside = append(inside, own{e.ID, n, ""})
		}
		l = append(l, occurring(kid, inside)...)
	}
	return l
}

// localByRule returns the local name of the name n of a node, of which names are bound in the kid, where around is bound.
func localByRule(e api.Expr, kid api.Expr, names []int, n int, around []own) string {
	var inner []own
	for _, i := range names {
		if i >= n {
			inner = append(inner, own{e.ID, i, ""})
		}
	}
	needed := map[string]bool{}
	for _, v := range occurring(kid, inner) {
		x, _ := innermost(around, v.id, v.n)
		needed[x.local] = true
	}
	name := e.Names[n]
	for i := 1; needed[name]; i++ {
		name = numbered(e.Names[n], i)
	}
	return name
}

// ruler writes terms by the words of the chapter.
type ruler struct {
	p        api.Prog
	mod      api.ID
	nameless bool
}

func (r *ruler) name(n api.ID) string {
	s := nameByRule(r.p, r.mod, n)
	r.nameless = r.nameless || s == "" || s == "Int" || s == "Bool"
	return s
}

func (r *ruler) word(x api.Type) word {
	switch x.Kind {
	case api.TInt:
		return word{Name: "Int"}
	case api.TBool:
		return word{Name: "Bool"}
	case api.TList:
		return word{Name: "List", Kids: []word{r.word(x.Kids[0])}}
	}
	return word{Name: r.name(x.Def)}
}

func (r *ruler) term(e api.Expr, around []own) term {
	x := term{Kind: e.Kind}
	d, _ := firstDef(r.p, e.Ref)
	var locals []string
	for i, kid := range e.Kids {
		names := bindsByRule(e.Kind, i)
		inside := slices.Clone(around)
		for _, n := range names {
			s := localByRule(e, kid, names, n, inside)
			locals = append(locals, s)
			inside = append(inside, own{e.ID, n, s})
		}
		x.Kids = append(x.Kids, r.term(kid, inside))
	}
	switch e.Kind {
	case api.NInt, api.NBool, api.NOp:
		x.N = e.N
	case api.NVar:
		v, _ := innermost(around, e.Ref, e.N)
		x.Name = v.local
	case api.NLet, api.NFold:
		x.Names = locals
	case api.NList:
		x.Type = r.word(e.Type)
	case api.NField, api.NCase:
		x.Field = d.Slots[e.N].Name
	case api.NRec, api.NMatch:
		for i, s := range d.Slots {
			x.Names = append(x.Names, s.Name)
			if e.Kind == api.NMatch {
				x.Names = append(x.Names, locals[i])
			}
		}
	}
	if rightKinds(e.Kind) != nil {
		x.Name = r.name(e.Ref)
	}
	return x
}

// unbindByRule returns the form of a definition by the words of the chapter.
func unbindByRule(p api.Prog, n api.ID) (form, api.Errno) {
	d, ok := firstDef(p, n)
	if !ok {
		return form{}, api.ErrNone
	}
	f := form{Kind: d.Kind, Name: d.Name}
	isBody := slices.Contains([]int{api.KFun, api.KOn, api.KTest, api.KConv}, d.Kind)
	var around []own
	dead := isBody && deadType(p, d.Result)
	for _, s := range d.Slots {
		dead = dead || deadType(p, s.Type)
		around = append(around, own{s.ID, 0, s.Name})
	}
	if dead || isBody && deadNode(p, d.Body, around) {
		return form{}, api.ErrDead
	}
	r := ruler{p: p, mod: d.Mod}
	for _, s := range d.Slots {
		x := syntax.Field{Name: s.Name, Type: r.word(s.Type)}
		if d.Kind == api.KTest {
			x.Most = s.Most
		}
		f.Slots = append(f.Slots, x)
	}
	if isBody {
		f.Result, f.Body = r.word(d.Result), r.term(d.Body, around)
	}
	tokens := syntax.Tokens(f)
	if r.nameless || len(tokens) == 0 {
		return form{}, api.ErrName
	}
	if usableByRule(d.Layout, tokens) {
		f.Layout = slices.Clone(d.Layout)
	}
	return f, api.OK
}

// usableByRule reports whether a layout is usable for tokens by the words of the chapter.
func usableByRule(layout, tokens []string) bool {
	if len(layout) != len(tokens)+1 {
		return false
	}
	text := ""
	for i, s := range tokens {
		text += layout[i] + s
	}
	end := layout[len(tokens)]
	l, last, at := lex.Scan(text + end)
	if at != -1 || len(l) != len(tokens) || last != end {
		return false
	}
	for i, x := range l {
		if x.Text != tokens[i] || x.Before != layout[i] {
			return false
		}
	}
	return end != "" && strings.Index(end, "\n") == len(end)-1
}

// knot is a node that is not numbered yet. Of a variable, slot or to is what binds it.
type knot struct {
	e    api.Expr
	kids []*knot
	slot int
	to   *knot
}

// scoped is a name that is bound around a term.
type scoped struct {
	name string
	slot int
	to   *knot
	n    int
}

// tier binds a form by the words of the chapter.
type tier struct {
	p     api.Prog
	mod   api.ID
	wrong bool
}

// meant returns the definition of one of some kinds that a name stands for.
func (r *tier) meant(name string, kinds ...int) api.Def {
	var l []api.Def
	for _, n := range findByRule(r.p, r.mod, name) {
		if d, _ := firstDef(r.p, n); slices.Contains(kinds, d.Kind) {
			l = append(l, d)
		}
	}
	if len(l) != 1 {
		r.wrong = true
		return api.Def{}
	}
	return l[0]
}

func (r *tier) typeOf(w word) api.Type {
	switch w.Name {
	case "Int":
		return whole
	case "Bool":
		return truth
	case "List":
		return listOf(r.typeOf(w.Kids[0]))
	}
	return api.Type{Kind: api.TDef, Def: r.meant(w.Name, api.KRec, api.KCase).ID}
}

// places returns the places of the slots with a name.
func places(d api.Def, name string) []int {
	var l []int
	for i, s := range d.Slots {
		if s.Name == name {
			l = append(l, i)
		}
	}
	return l
}

// parts returns the numbers of the parts with some names in the order of the slots of a definition.
func (r *tier) parts(d api.Def, names []string) []int {
	var l []int
	for _, s := range d.Slots {
		before := len(l)
		for i, name := range names {
			if name == s.Name {
				l = append(l, i)
			}
		}
		r.wrong = r.wrong || len(l) != before+1
	}
	for _, name := range names {
		r.wrong = r.wrong || len(places(d, name)) != 1
	}
	return l
}

func (r *tier) knot(t term, around []scoped) *knot {
	k := &knot{e: api.Expr{Kind: t.Kind}, slot: -1}
	var d api.Def
	if right := rightKinds(t.Kind); right != nil {
		d = r.meant(t.Name, right...)
		k.e.Ref = d.ID
	}
	kids := t.Kids
	switch t.Kind {
	case api.NInt, api.NBool, api.NOp:
		k.e.N = t.N
	case api.NVar:
		i := len(around) - 1
		for i >= 0 && around[i].name != t.Name {
			i--
		}
		if r.wrong = r.wrong || i < 0; i >= 0 {
			k.slot, k.to, k.e.N = around[i].slot, around[i].to, around[i].n
		}
	case api.NLet, api.NFold:
		k.e.Names = t.Names
	case api.NList:
		k.e.Type = r.typeOf(t.Type)
	case api.NField, api.NCase:
		l := places(d, t.Field)
		if r.wrong = r.wrong || len(l) != 1; len(l) == 1 {
			k.e.N = l[0]
		}
	case api.NRec:
		kids = nil
		for _, i := range r.parts(d, t.Names) {
			kids = append(kids, t.Kids[i])
		}
	case api.NMatch:
		var cases []string
		for i, s := range t.Names {
			if i%2 == 0 {
				cases = append(cases, s)
			}
		}
		kids = []term{t.Kids[0]}
		for _, i := range r.parts(d, cases) {
			kids = append(kids, t.Kids[i+1])
			k.e.Names = append(k.e.Names, t.Names[2*i+1])
		}
	}
	for i, kid := range kids {
		inside := slices.Clone(around)
		for _, n := range bindsByRule(t.Kind, i) {
			inside = append(inside, scoped{k.e.Names[n], -1, k, n})
		}
		k.kids = append(k.kids, r.knot(kid, inside))
	}
	return k
}

// postorder returns the nodes of a knot in postorder.
func postorder(k *knot) []*knot {
	var l []*knot
	for _, kid := range k.kids {
		l = append(l, postorder(kid)...)
	}
	return append(l, k)
}

// expr returns the expression of a knot that is numbered.
func (k *knot) expr(d api.Def) api.Expr {
	e := k.e
	switch {
	case k.slot >= 0:
		e.Ref = d.Slots[k.slot].ID
	case k.to != nil:
		e.Ref = k.to.e.ID
	}
	for _, kid := range k.kids {
		e.Kids = append(e.Kids, kid.expr(d))
	}
	return e
}

// bindByRule returns the definition of a form by the words of the chapter.
func bindByRule(p api.Prog, mod api.ID, f form, next []api.ID) (api.Def, int, api.Errno) {
	if _, ok := firstMod(p, mod); !ok {
		return api.Def{}, 0, api.ErrNone
	}
	if len(syntax.Tokens(f)) == 0 {
		return api.Def{}, 0, api.ErrForm
	}
	r := tier{p: p, mod: mod}
	d := api.Def{Kind: f.Kind, Mod: mod, Name: f.Name, Layout: f.Layout}
	var around []scoped
	for i, s := range f.Slots {
		for _, x := range around {
			r.wrong = r.wrong || x.name == s.Name
		}
		around = append(around, scoped{s.Name, i, nil, 0})
		d.Slots = append(d.Slots, api.Slot{Name: s.Name, Type: r.typeOf(s.Type), Most: s.Most, Place: i})
	}
	list := []*api.ID{&d.ID}
	for i := range d.Slots {
		list = append(list, &d.Slots[i].ID)
	}
	var k *knot
	if f.Kind != api.KRec && f.Kind != api.KCase {
		d.Result = r.typeOf(f.Result)
		k = r.knot(f.Body, around)
		for _, x := range postorder(k) {
			list = append(list, &x.e.ID)
		}
	}
	if r.wrong {
		return api.Def{}, 0, api.ErrName
	}
	if len(list) > len(next) {
		return api.Def{}, 0, api.ErrLimit
	}
	for i, x := range list {
		*x = next[i]
	}
	if k != nil {
		d.Body = k.expr(d)
	}
	return d, len(list), api.OK
}
