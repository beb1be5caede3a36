package equiv_test

import (
	"slices"
	"strconv"
	"testing"

	"splicery/api"
	"splicery/check"
	"splicery/equiv"
	"splicery/value"
)

// The functions of the package are these.
var (
	_ func(p api.Prog, a api.ID, q api.Prog, b api.ID, fuel int) ([]api.Value, equiv.Proof, api.Errno) = equiv.Differ
	_ func(p api.Prog, a api.ID, q api.Prog, b api.ID, fuel int, x equiv.Proof) api.Errno              = equiv.Check
	_ func(p api.Prog, a api.ID, q api.Prog, b api.ID, fuel int, l []api.Value) bool                   = equiv.Witness
)

// A proof has these parts.
var _ = struct {
	Normal bool
	Slot   int
	Kids   []equiv.Proof
	Result []api.Value
}(equiv.Proof{})

// id returns an ID for each number from 0 on. Their order is not that of the numbers.
func id(n int) api.ID { return api.ID{Shop: n % 3, Seq: n / 3 % 4, Index: n / 12} }

func ids(l ...int) []api.ID {
	var some []api.ID
	for _, n := range l {
		some = append(some, id(n))
	}
	return some
}

var (
	whole = api.Type{}
	truth = api.Type{Kind: api.TBool}
)

func of(n int) api.Type { return api.Type{Kind: api.TDef, Def: id(n)} }

func listOf(t api.Type) api.Type { return api.Type{Kind: api.TList, Kids: []api.Type{t}} }

// Nodes. Those that bind nothing have the zero ID, unless def gives them others.

func num(n int) api.Expr { return api.Expr{Kind: api.NInt, N: n} }

func is(n int) api.Expr { return api.Expr{Kind: api.NBool, N: n} }

// v returns a variable of a slot, or of the only name of a node.
func v(ref int) api.Expr { return nth(ref, 0) }

// nth returns a variable of a name of a node.
func nth(ref, n int) api.Expr { return api.Expr{Kind: api.NVar, Ref: id(ref), N: n} }

func call(ref int, kids ...api.Expr) api.Expr {
	return api.Expr{Kind: api.NCall, Ref: id(ref), Kids: kids}
}

func op(n int, kids ...api.Expr) api.Expr { return api.Expr{Kind: api.NOp, N: n, Kids: kids} }

func add(kids ...api.Expr) api.Expr { return op(api.Add, kids...) }

func not(kid api.Expr) api.Expr { return op(api.Not, kid) }

func size(kid api.Expr) api.Expr { return op(api.Len, kid) }

func cond(kids ...api.Expr) api.Expr { return api.Expr{Kind: api.NIf, Kids: kids} }

// Nodes that bind have the names a, b and so on.

func letters(n int) []string {
	var l []string
	for i := range n {
		l = append(l, string(rune('a'+i)))
	}
	return l
}

func let(n int, kids ...api.Expr) api.Expr {
	return api.Expr{ID: id(n), Kind: api.NLet, Kids: kids, Names: letters(1)}
}

func rec(ref int, kids ...api.Expr) api.Expr {
	return api.Expr{Kind: api.NRec, Ref: id(ref), Kids: kids}
}

func field(ref, n int, kid api.Expr) api.Expr {
	return api.Expr{Kind: api.NField, Ref: id(ref), N: n, Kids: []api.Expr{kid}}
}

// one returns a node for the case n of a variant.
func one(ref, n int, kid api.Expr) api.Expr {
	return api.Expr{Kind: api.NCase, Ref: id(ref), N: n, Kids: []api.Expr{kid}}
}

func match(n, ref int, kids ...api.Expr) api.Expr {
	return api.Expr{ID: id(n), Kind: api.NMatch, Ref: id(ref), Kids: kids, Names: letters(len(kids) - 1)}
}

func list(t api.Type, kids ...api.Expr) api.Expr {
	return api.Expr{Kind: api.NList, Type: t, Kids: kids}
}

func fold(n int, kids ...api.Expr) api.Expr {
	return api.Expr{ID: id(n), Kind: api.NFold, Kids: kids, Names: letters(2)}
}

// def returns the definition n, whose slots have the IDs 100 * n + 1, and so on, and whose nodes without an ID have, in preorder, the IDs 1000 * n, and so on.
func def(n, kind int, result api.Type, body api.Expr, l ...api.Type) api.Def {
	d := api.Def{ID: id(n), Kind: kind, Mod: id(90), Name: "d" + strconv.Itoa(n), Result: result, Place: n}
	d.Body, _ = withIDs(body, 1000*n)
	for i, t := range l {
		d.Slots = append(d.Slots, api.Slot{ID: id(100*n + 1 + i), Name: letters(i + 1)[i], Type: t, Place: i})
	}
	return d
}

// data returns the definition n of a type, with these types of slots.
func data(n, kind int, l ...api.Type) api.Def {
	d := def(n, kind, whole, api.Expr{}, l...)
	d.Body = api.Expr{}
	return d
}

// withIDs returns a copy of an expression in which all nodes have an ID, where the first one in preorder has a number if it had none, and the number behind the last one.
func withIDs(e api.Expr, n int) (api.Expr, int) {
	if e.ID == (api.ID{}) {
		e.ID = id(n)
	}
	n++
	e.Kids = slices.Clone(e.Kids)
	for i := range e.Kids {
		e.Kids[i], n = withIDs(e.Kids[i], n)
	}
	return e, n
}

func prog(l ...api.Def) api.Prog { return api.Prog{Defs: l} }

// sound checks that a program has types.
func sound(t *testing.T, p api.Prog) {
	t.Helper()
	if l := check.All(p); len(l) > 0 {
		t.Fatalf("the program is not sound: %+v", l)
	}
}

// show writes an expression.
func show(e api.Expr) string {
	name := func(id api.ID) string {
		return strconv.Itoa(id.Shop) + "." + strconv.Itoa(id.Seq) + "." + strconv.Itoa(id.Index)
	}
	kinds := []string{"int", "bool", "var", "call", "op", "if", "let", "rec", "field", "case", "match", "list", "fold"}
	s := strconv.Itoa(e.Kind)
	if e.Kind >= 0 && e.Kind < len(kinds) {
		s = kinds[e.Kind]
	}
	if e.N != 0 || e.Kind <= api.NOp {
		s += strconv.Itoa(e.N)
	}
	if e.Ref != (api.ID{}) {
		s += ">" + name(e.Ref)
	}
	if binding(e.Kind) {
		s += "=" + name(e.ID)
	}
	if len(e.Kids) == 0 {
		return s
	}
	s += "("
	for _, kid := range e.Kids {
		s += " " + show(kid)
	}
	return s + " )"
}

// within returns a definition whose slots have these bounds.
func within(d api.Def, l ...int) api.Def {
	d.Slots = slices.Clone(d.Slots)
	for i, most := range l {
		d.Slots[i].Most = most
	}
	return d
}

// The values of tests.

func number(n int) api.Value { return api.Value{Kind: api.VInt, N: n} }

func fact(n int) api.Value { return api.Value{Kind: api.VBool, N: n} }

func record(kids ...api.Value) api.Value { return api.Value{Kind: api.VRec, Kids: kids} }

func kase(n int, kid api.Value) api.Value {
	return api.Value{Kind: api.VCase, N: n, Kids: []api.Value{kid}}
}

func several(kids ...api.Value) api.Value { return api.Value{Kind: api.VList, Kids: kids} }

func numbers(l ...int) []api.Value {
	var some []api.Value
	for _, n := range l {
		some = append(some, number(n))
	}
	return some
}

// The proofs of tests.

var byForms = equiv.Proof{Normal: true}

func split(slot int, kids ...equiv.Proof) equiv.Proof { return equiv.Proof{Slot: slot, Kids: kids} }

func returns(l ...api.Value) equiv.Proof { return equiv.Proof{Result: l} }

// sameValues reports whether two lists of values are equal.
func sameValues(a, b []api.Value) bool {
	return slices.EqualFunc(a, b, func(v, w api.Value) bool { return value.Compare(v, w) == 0 })
}

// sameProof reports whether two proofs are equal.
func sameProof(x, y equiv.Proof) bool {
	return x.Normal == y.Normal && x.Slot == y.Slot && sameValues(x.Result, y.Result) && slices.EqualFunc(x.Kids, y.Kids, sameProof)
}

// two are definitions of two programs that are compared with some fuel.
type two struct {
	p    api.Prog
	a    api.ID
	q    api.Prog
	b    api.ID
	fuel int
}

// pair returns the definition 30 of one program and of another one.
func pair(p, q api.Prog) two { return two{p, id(30), q, id(30), 1000} }

// back returns the two in the opposite order.
func (x two) back() two { return two{x.q, x.b, x.p, x.a, x.fuel} }

func (x two) differ() ([]api.Value, equiv.Proof, api.Errno) {
	return equiv.Differ(x.p, x.a, x.q, x.b, x.fuel)
}

func (x two) check(proof equiv.Proof) api.Errno {
	return equiv.Check(x.p, x.a, x.q, x.b, x.fuel, proof)
}

func (x two) witness(l []api.Value) bool { return equiv.Witness(x.p, x.a, x.q, x.b, x.fuel, l) }

// sound checks that both programs are sound.
func (x two) sound(t *testing.T) two {
	t.Helper()
	sound(t, x.p)
	sound(t, x.q)
	return x
}

// fails checks that the two have an error other than ErrDiffer.
func (x two) fails(t *testing.T, what string, want api.Errno) {
	t.Helper()
	l, proof, e := x.differ()
	if e != want || len(l) > 0 || !sameProof(proof, equiv.Proof{}) {
		t.Errorf("P15.1: %s: Differ returns the input %+v, the proof %+v and the error %d, not the error %d alone", what, l, proof, e, want)
	}
	for _, proof := range []equiv.Proof{byForms, {}, returns(number(1)), split(0)} {
		if e := x.check(proof); e != want {
			t.Errorf("P15.3: %s: Check of %+v returns the error %d, not %d", what, proof, e, want)
		}
	}
}

// differs checks that the two differ, and the least input.
func (x two) differs(t *testing.T, what string, want ...api.Value) {
	t.Helper()
	l, proof, e := x.differ()
	if e != api.ErrDiffer || !sameValues(l, want) || !sameProof(proof, equiv.Proof{}) {
		t.Errorf("P15.1: %s: Differ returns the input %+v, the proof %+v and the error %d, not the input %+v alone", what, l, proof, e, want)
	}
	if !x.witness(want) {
		t.Errorf("P15.4: %s: %+v is not a witness", what, want)
	}
	if e := x.check(byForms); e != api.ErrCheck {
		t.Errorf("P15.3: %s: Check of normal forms returns the error %d", what, e)
	}
}

// equal checks that the two do not differ, and whether this follows from their normal forms alone.
func (x two) equal(t *testing.T, what string, normal bool) equiv.Proof {
	t.Helper()
	l, proof, e := x.differ()
	if e != api.OK || len(l) > 0 {
		t.Errorf("P15.1: %s: Differ returns the input %+v and the error %d", what, l, e)
	}
	if e := x.check(proof); e != api.OK {
		t.Errorf("P15.2: %s: Differ returns the proof %+v, which is not right: the error %d", what, proof, e)
	}
	want := api.OK
	if !normal {
		want = api.ErrCheck
	}
	if e := x.check(byForms); e != want {
		t.Errorf("P15.3: %s: Check of normal forms returns the error %d, not %d", what, e, want)
	}
	return proof
}

// TestExamples has the examples of the chapter.
func TestExamples(t *testing.T) {
	f := func(body api.Expr, most int) api.Prog {
		return prog(within(def(30, api.KFun, whole, body, whole), most))
	}
	a := v(3001)
	sum := op(api.Sub, add(a, num(1)), num(1))
	unless := cond(op(api.Same, a, num(2)), num(0), a)
	for most := range 65 {
		pair(f(sum, most), f(a, most)).sound(t).equal(t, "a", false)
		pair(f(sum, most), f(op(api.Sub, add(add(num(0), a), num(1)), op(api.Mul, num(1), num(1))), most)).sound(t).equal(t, "0 + a + 1 - 1 * 1", true)
		x := pair(f(sum, most), f(unless, 64)).sound(t)
		if most < 2 {
			x.equal(t, "if a == 2 then 0 else a", false)
		} else {
			x.differs(t, "if a == 2 then 0 else a", number(2))
		}
	}
}
