package normal_test

import (
	"cmp"
	"slices"
	"strconv"
	"testing"

	"splicery/api"
	"splicery/check"
	"splicery/normal"
)

// The functions of the package are these.
var (
	_ func(p api.Prog, e api.Expr) api.Expr                     = normal.Expr
	_ func(p api.Prog, a api.Expr, q api.Prog, b api.Expr) bool = normal.Same
	_ func(p api.Prog, id api.ID) (api.Digest, api.Errno)       = normal.Meaning
	_ func(p api.Prog, id api.ID) []api.ID                      = normal.Cone
)

// id returns an ID for each number from 0 on. Their order is not that of the numbers.
func id(n int) api.ID { return api.ID{Shop: n % 3, Seq: n / 3 % 4, Index: n / 12} }

func ids(l ...int) []api.ID {
	var some []api.ID
	for _, n := range l {
		some = append(some, id(n))
	}
	return some
}

// order returns the order of two IDs.
func order(a, b api.ID) int {
	return cmp.Or(cmp.Compare(a.Shop, b.Shop), cmp.Compare(a.Seq, b.Seq), cmp.Compare(a.Index, b.Index))
}

// sorted returns the elements of a list in increasing order, each once.
func sorted(l []api.ID) []api.ID {
	l = slices.Clone(l)
	slices.SortFunc(l, order)
	return slices.Compact(l)
}

var (
	whole = api.Type{}
	truth = api.Type{Kind: api.TBool}
)

func of(n int) api.Type { return api.Type{Kind: api.TDef, Def: id(n)} }

func listOf(t api.Type) api.Type { return api.Type{Kind: api.TList, Kids: []api.Type{t}} }

// Nodes. Those that bind nothing have the zero ID, unless def gives them others.

func num(n int) api.Expr { return api.Expr{Kind: api.NInt, N: n} }

func is(n int) api.Expr { return api.Expr{Kind: api.NBool, N: n} }

// v returns a variable of a slot, or of the only name of a node.
func v(ref int) api.Expr { return nth(ref, 0) }

// nth returns a variable of a name of a node.
func nth(ref, n int) api.Expr { return api.Expr{Kind: api.NVar, Ref: id(ref), N: n} }

func call(ref int, kids ...api.Expr) api.Expr {
	return api.Expr{Kind: api.NCall, Ref: id(ref), Kids: kids}
}

func op(n int, kids ...api.Expr) api.Expr { return api.Expr{Kind: api.NOp, N: n, Kids: kids} }

func add(kids ...api.Expr) api.Expr { return op(api.Add, kids...) }

func not(kid api.Expr) api.Expr { return op(api.Not, kid) }

func size(kid api.Expr) api.Expr { return op(api.Len, kid) }

func cond(kids ...api.Expr) api.Expr { return api.Expr{Kind: api.NIf, Kids: kids} }

// Nodes that bind have the names a, b and so on.

func letters(n int) []string {
	var l []string
	for i := range n {
		l = append(l, string(rune('a'+i)))
	}
	return l
}

func let(n int, kids ...api.Expr) api.Expr {
	return api.Expr{ID: id(n), Kind: api.NLet, Kids: kids, Names: letters(1)}
}

// letb returns a node let with the name b.
func letb(n int, kids ...api.Expr) api.Expr {
	return api.Expr{ID: id(n), Kind: api.NLet, Kids: kids, Names: []string{"b"}}
}

func rec(ref int, kids ...api.Expr) api.Expr {
	return api.Expr{Kind: api.NRec, Ref: id(ref), Kids: kids}
}

func field(ref, n int, kid api.Expr) api.Expr {
	return api.Expr{Kind: api.NField, Ref: id(ref), N: n, Kids: []api.Expr{kid}}
}

// one returns a node for the case n of a variant.
func one(ref, n int, kid api.Expr) api.Expr {
	return api.Expr{Kind: api.NCase, Ref: id(ref), N: n, Kids: []api.Expr{kid}}
}

func match(n, ref int, kids ...api.Expr) api.Expr {
	return api.Expr{ID: id(n), Kind: api.NMatch, Ref: id(ref), Kids: kids, Names: letters(len(kids) - 1)}
}

func list(t api.Type, kids ...api.Expr) api.Expr {
	return api.Expr{Kind: api.NList, Type: t, Kids: kids}
}

func fold(n int, kids ...api.Expr) api.Expr {
	return api.Expr{ID: id(n), Kind: api.NFold, Kids: kids, Names: letters(2)}
}

// def returns the definition n, whose slots have the IDs 100 * n + 1, and so on, and whose nodes without an ID have, in preorder, the IDs 1000 * n, and so on.
func def(n, kind int, result api.Type, body api.Expr, l ...api.Type) api.Def {
	d := api.Def{ID: id(n), Kind: kind, Mod: id(90), Name: "d" + strconv.Itoa(n), Result: result, Place: n}
	d.Body, _ = withIDs(body, 1000*n)
	for i, t := range l {
		d.Slots = append(d.Slots, api.Slot{ID: id(100*n + 1 + i), Name: letters(i + 1)[i], Type: t, Place: i})
	}
	return d
}

// data returns the definition n of a type, with these types of slots.
func data(n, kind int, l ...api.Type) api.Def {
	d := def(n, kind, whole, api.Expr{}, l...)
	d.Body = api.Expr{}
	return d
}

// withIDs returns a copy of an expression in which all nodes have an ID, where the first one in preorder has a number if it had none, and the number behind the last one.
func withIDs(e api.Expr, n int) (api.Expr, int) {
	if e.ID == (api.ID{}) {
		e.ID = id(n)
	}
	n++
	e.Kids = slices.Clone(e.Kids)
	for i := range e.Kids {
		e.Kids[i], n = withIDs(e.Kids[i], n)
	}
	return e, n
}

func prog(l ...api.Def) api.Prog { return api.Prog{Defs: l} }

// sound checks that a program has types.
func sound(t *testing.T, p api.Prog) {
	t.Helper()
	if l := check.All(p); len(l) > 0 {
		t.Fatalf("the program is not sound: %+v", l)
	}
}

// alike reports whether two expressions are equal, but for the IDs of nodes that bind nothing.
func alike(a, b api.Expr) bool {
	id := !binding(a.Kind) || a.ID == b.ID
	return id && a.Kind == b.Kind && a.N == b.N && a.Ref == b.Ref && sameType(a.Type, b.Type) && slices.Equal(a.Names, b.Names) && slices.EqualFunc(a.Kids, b.Kids, alike)
}

func sameType(a, b api.Type) bool {
	return a.Kind == b.Kind && a.Def == b.Def && slices.EqualFunc(a.Kids, b.Kids, sameType)
}

// nodes returns the number of nodes of an expression.
func nodes(e api.Expr) int {
	n := 1
	for _, kid := range e.Kids {
		n += nodes(kid)
	}
	return n
}

// show writes an expression.
func show(e api.Expr) string {
	name := func(id api.ID) string {
		return strconv.Itoa(id.Shop) + "." + strconv.Itoa(id.Seq) + "." + strconv.Itoa(id.Index)
	}
	kinds := []string{"int", "bool", "var", "call", "op", "if", "let", "rec", "field", "case", "match", "list", "fold"}
	s := strconv.Itoa(e.Kind)
	if e.Kind >= 0 && e.Kind < len(kinds) {
		s = kinds[e.Kind]
	}
	if e.N != 0 || e.Kind <= api.NOp {
		s += strconv.Itoa(e.N)
	}
	if e.Ref != (api.ID{}) {
		s += ">" + name(e.Ref)
	}
	if binding(e.Kind) {
		s += "=" + name(e.ID)
	}
	if len(e.Kids) == 0 {
		return s
	}
	s += "("
	for _, kid := range e.Kids {
		s += " " + show(kid)
	}
	return s + " )"
}

// becomes checks the normal form of an expression, and that it is as the rule says (unless the rule would make a node bind a variable of another one), normal (P14.6) and not larger.
func becomes(t *testing.T, what string, e, want api.Expr) {
	t.Helper()
	got := normal.Expr(api.Prog{}, e)
	if !alike(got, want) {
		t.Errorf("P14.1: %s: %s becomes %s, not %s", what, show(e), show(got), show(want))
	}
	r := rule{}
	if byRule := r.normal(e); !r.hidden && !alike(got, byRule) {
		t.Errorf("P14.1: %s: %s becomes %s, by the rule %s", what, show(e), show(got), show(byRule))
	}
	if again := normal.Expr(api.Prog{}, got); !alike(again, got) {
		t.Errorf("P14.6: %s: %s becomes %s, and this %s", what, show(e), show(got), show(again))
	}
	if nodes(got) > nodes(e) {
		t.Errorf("P14.6: %s: %s becomes the larger %s", what, show(e), show(got))
	}
}

// TestExamples has the examples of the chapter.
func TestExamples(t *testing.T) {
	for what, x := range map[string][2]api.Expr{
		"let x = 2 in a * 1 + x":       {let(5, num(2), add(op(api.Mul, v(1), num(1)), v(5))), add(num(2), v(1))},
		"if not (not b) then a else a": {cond(not(not(v(2))), v(1), v(1)), v(1)},
		"Point.x of Point{1, a}":       {field(3, 0, rec(3, num(1), v(1))), num(1)},
	} {
		becomes(t, what, x[0], x[1])
	}
}
