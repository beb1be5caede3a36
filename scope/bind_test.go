package scope_test

import (
	"reflect"
	"strconv"
	"strings"
	"testing"

	"splicery/api"
	"splicery/scope"
)

var kinds = []string{"int", "bool", "var", "call", "op", "if", "let", "rec", "field", "case", "match", "list", "fold"}

// showType returns a text in which each field of a type stands.
func showType(x api.Type) string {
	s := []string{"Int", "Bool", "List", "Def"}[x.Kind]
	if x.Def != (api.ID{}) {
		s += "=" + strconv.Itoa(x.Def.Index)
	}
	for _, kid := range x.Kids {
		s += " " + showType(kid)
	}
	return s
}

// show returns a text in which each field of an expression stands: the kind, the ID, then N, Ref, Type and Names, as far as they are not zero, and the kids.
func show(e api.Expr) string {
	s := kinds[e.Kind] + "@" + strconv.Itoa(e.ID.Index)
	if e.N != 0 {
		s += "/" + strconv.Itoa(e.N)
	}
	if e.Ref != (api.ID{}) {
		s += "=" + strconv.Itoa(e.Ref.Index)
	}
	if !reflect.DeepEqual(e.Type, api.Type{}) {
		s += ":" + showType(e.Type)
	}
	if len(e.Names) > 0 {
		s += "[" + strings.Join(e.Names, " ") + "]"
	}
	var kids []string
	for _, kid := range e.Kids {
		kids = append(kids, show(kid))
	}
	if len(kids) > 0 {
		s += "(" + strings.Join(kids, ", ") + ")"
	}
	return s
}

// nodes returns the nodes of an expression in postorder.
func nodes(e api.Expr) []api.Expr {
	var l []api.Expr
	for _, kid := range e.Kids {
		l = append(l, nodes(kid)...)
	}
	return append(l, e)
}

// bound binds a form in world, and checks how many IDs that takes, from 100 on.
func bound(t *testing.T, p api.Prog, f form) api.Def {
	t.Helper()
	d, n, e := scope.Bind(p, id(modM), f, ids(100, 1000))
	if e != api.OK {
		t.Fatalf("P8.2: Bind of %q fails with %d", written(f), e)
	}
	want := 1 + len(f.Slots)
	if f.Kind != api.KRec && f.Kind != api.KCase {
		want += len(nodes(d.Body))
	}
	if n != want {
		t.Fatalf("P8.2: Bind of %q takes %d IDs, not %d", written(f), n, want)
	}
	// Exactly as many do as well, and one less does not.
	again, n, e := scope.Bind(p, id(modM), f, ids(100, want))
	if n != want || e != api.OK || !reflect.DeepEqual(again, d) {
		t.Fatalf("P8.2: with %d IDs Bind of %q is %v, %d, %d", want, written(f), again, n, e)
	}
	for i := range want {
		fails(t, p, id(modM), f, ids(100, i), api.ErrLimit)
	}
	return d
}

// fails checks that a form is not bound.
func fails(t *testing.T, p api.Prog, mod api.ID, f form, next []api.ID, want api.Errno) {
	t.Helper()
	if d, n, e := scope.Bind(p, mod, f, next); e != want || n != 0 || !reflect.DeepEqual(d, api.Def{}) {
		t.Errorf("P8.2: Bind of %q with %d IDs is %v, %d, %d instead of the error %d", written(f), len(next), d, n, e, want)
	}
}

func TestBindBodies(t *testing.T) {
	for _, x := range []struct{ text, want string }{
		// Each kind, with IDs from 103 on, in postorder
		{"7", "int@103/7"}, {"0", "int@103"}, {"-1099511627776", "int@103/-1099511627776"}, {"true", "bool@103/1"}, {"false", "bool@103"},
		{"a", "var@103=101"}, {"b", "var@103=102"}, {"f(a)", "call@104=12(var@103=101)"}, {"c(a, 1, 2)", "call@106=13(var@103=101, int@104/1, int@105/2)"}, {"g()", "call@103=22"},
		{"a + 1", "op@105(var@103=101, int@104/1)"}, {"a % 1", "op@105/4(var@103=101, int@104/1)"}, {"not a", "op@104/9(var@103=101)"}, {"len a", "op@104/11(var@103=101)"},
		{"if a then b else 1", "if@106(var@103=101, var@104=102, int@105/1)"},
		{"P {x = a, y = b}", "rec@105=10(var@103=101, var@104=102)"}, {"Q {}", "rec@103=23"}, {"P:x[a]", "field@104=10(var@103=101)"}, {"P:y[a]", "field@104/1=10(var@103=101)"},
		{"S:A(a)", "case@104=11(var@103=101)"}, {"T:F(a)", "case@104/2=21(var@103=101)"},
		{"List(Int) []", "list@103"}, {"List(List(Bool)) [1, a]", "list@105:List Bool(int@103/1, var@104=101)"}, {"List(k.P) [1]", "list@104:Def=20(int@103/1)"},
		// What names stand for
		{"P:x[k.P:z[a]]", "field@105=10(field@104=20(var@103=101))"}, {"m.P {y = b, x = a}", "rec@105=10(var@103=101, var@104=102)"}, {"k.f() + f() + m.f()", "op@107(op@105(call@103=25, call@104=12), call@106=12)"},
		{"k.g() + g()", "op@105(call@103=22, call@104=22)"}, {"k.T:C(m.S:B(a))", "case@105=21(case@104/1=11(var@103=101))"}, {"List(m.S) []", "list@103:Def=11"},
		// Variables
		{"let x = a in x", "let@105[x](var@103=101, var@104=105)"}, {"let a = a in a", "let@105[a](var@103=101, var@104=105)"}, {"let a = let a = a in a in let a = a in a", "let@109[a](let@105[a](var@103=101, var@104=105), let@108[a](var@106=109, var@107=108))"},
		{"(let a = 1 in a) + a", "op@107(let@105[a](int@103/1, var@104=105), var@106=101)"},
		{"fold x, y = a over b do x + y", "fold@108[x y](var@103=102, var@104=101, op@107(var@105=108, var@106/1=108))"},
		{"fold a, b = a over b do a + b", "fold@108[a b](var@103=102, var@104=101, op@107(var@105=108, var@106/1=108))"},
		{"fold x, x = 1 over 2 do x", "fold@106[x x](int@103/2, int@104/1, var@105/1=106)"}, {"fold a, a = 1 over a do a + b", "fold@108[a a](var@103=101, int@104/1, op@107(var@105/1=108, var@106=102))"},
		{"match S (a) {A x -> x, B y -> a}", "match@106=11[x y](var@103=101, var@104=106, var@105=101)"}, {"match S (a) {A a -> a + b, B a -> a}", "match@108=11[a a](var@103=101, op@106(var@104=108, var@105=102), var@107/1=108)"},
		{"match T (a) {C x -> 1, D y -> let z = y in y, F x -> x}", "match@109=21[x y x](var@103=101, int@104/1, let@107[z](var@105/1=109, var@106/1=109), var@108/2=109)"},
		{"let x = 1 in fold y, z = x over x do match S (y) {A y -> y + x, B x -> x + z}", "let@115[x](int@103/1, fold@114[y z](var@104=115, var@105=115, match@113=11[y x](var@106=114, op@109(var@107=113, var@108=115), op@112(var@110/1=113, var@111/1=114))))"},
		// Fields and cases in another order
		{"P {y = 1, x = 2}", "rec@105=10(int@103/2, int@104/1)"}, {"P {y = a + 1, x = f(b)}", "rec@108=10(call@104=12(var@103=102), op@107(var@105=101, int@106/1))"},
		{"match S (a) {B y -> y, A x -> x}", "match@106=11[x y](var@103=101, var@104=106, var@105/1=106)"}, {"match k.T (0) {F u -> u, C v -> v + 1, D w -> 5}", "match@109=21[v w u](int@103, op@106(var@104=109, int@105/1), int@107/5, var@108/2=109)"},
	} {
		d := bound(t, world(), read(t, "fun n (a Int, b Bool) Int = "+x.text))
		if got := show(d.Body); got != x.want {
			t.Errorf("P8.2: the body of %s is %s, not %s", x.text, got, x.want)
		}
	}
}

func TestBindDefinitions(t *testing.T) {
	place := func(i, most int, name string, x api.Type) api.Slot {
		return api.Slot{ID: id(101 + i), Name: name, Type: x, Most: most, Place: i}
	}
	node := func(n int) api.Expr { return api.Expr{ID: id(n), N: 1} }
	for _, x := range []struct {
		text string
		want api.Def
	}{
		{"rec N ()", api.Def{Kind: api.KRec, Name: "N"}},
		{"rec N (x Int, y List(Bool))", api.Def{Kind: api.KRec, Name: "N", Slots: []api.Slot{place(0, 0, "x", whole), place(1, 0, "y", listOf(truth))}}},
		{"case P (A P, B k.P, C List(List(T)))", api.Def{Kind: api.KCase, Name: "P", Slots: []api.Slot{place(0, 0, "A", of(recP)), place(1, 0, "B", of(recKP)), place(2, 0, "C", listOf(listOf(of(caseT))))}}},
		{"fun f () S = 1", api.Def{Kind: api.KFun, Name: "f", Result: of(caseS), Body: node(101)}},
		{"on n (s m.P, e m.S) List(Int) = 1", api.Def{Kind: api.KOn, Name: "n", Slots: []api.Slot{place(0, 0, "s", of(recP)), place(1, 0, "e", of(caseS))}, Result: listOf(whole), Body: node(103)}},
		{"test n (a Int 0, b Bool 1, c Int 1099511627776) Bool = 1", api.Def{Kind: api.KTest, Name: "n", Slots: []api.Slot{place(0, 0, "a", whole), place(1, 1, "b", truth), place(2, api.MaxInt, "c", whole)}, Result: truth, Body: node(104)}},
		{"conv n (a Q) k.Q = 1", api.Def{Kind: api.KConv, Name: "n", Slots: []api.Slot{place(0, 0, "a", of(recQ))}, Result: of(recQ), Body: node(102)}},
		{"conv n () Int = 1", api.Def{Kind: api.KConv, Name: "n", Body: node(101)}},
	} {
		f := read(t, x.text)
		for _, layout := range [][]string{nil, f.Layout, {"x"}, {"", "?"}} {
			f.Layout = layout
			x.want.ID, x.want.Mod, x.want.Layout = id(100), id(modM), layout
			if got := bound(t, world(), f); !reflect.DeepEqual(got, x.want) {
				t.Errorf("P8.2: Bind of %q is %+v, not %+v", x.text, got, x.want)
			}
		}
	}
}

// TestBindIDs has a list of IDs in another order, in which one stands twice.
func TestBindIDs(t *testing.T) {
	next := append(ids(9, 1), ids(3, 6)...)
	next[4] = id(9)
	d, n, e := scope.Bind(world(), id(modK), read(t, "fun n (a Int, b Int) Int = a + b"), next)
	if got := show(d.Body); e != api.OK || n != 6 || d.ID != id(9) || d.Mod != id(modK) || d.Slots[0].ID != id(3) || d.Slots[1].ID != id(4) || got != "op@7(var@5=3, var@9=4)" {
		t.Errorf("P8.2: with the IDs %v it is %v, %d, %d", next, d, n, e)
	}
}

// doubled is world with definitions that share a name, and with such whose slots do. The modules m and l have the name m.
func doubled() api.Prog {
	p := world()
	p.Mods = append(p.Mods, api.Mod{ID: id(4), Name: "m"})
	p.Mods[0].Uses = append(p.Mods[0].Uses, id(4))
	def := func(n, mod, kind int, name string, names ...string) api.Def {
		return api.Def{ID: id(n), Mod: id(mod), Kind: kind, Name: name, Slots: slots(10*n, names...)}
	}
	return with(p,
		def(60, modM, api.KRec, "R", "x"), def(61, modM, api.KRec, "R", "x"),
		def(62, modM, api.KFun, "R"), def(63, modM, api.KRec, "F", "x"), def(64, modM, api.KFun, "F"), def(65, modM, api.KTest, "F"),
		def(66, modM, api.KCase, "C", "x"), def(67, modM, api.KRec, "C", "x"), def(68, modM, api.KOn, "C"),
		def(69, modM, api.KFun, "G"), def(80, modM, api.KConv, "G"), def(81, modK, api.KRec, "G", "x"),
		def(82, modM, api.KRec, "X", "x", "x"), def(83, modM, api.KCase, "Y", "x", "y", "x"),
		def(84, 4, api.KRec, "P", "u"), def(85, 4, api.KFun, "only"), def(86, modM, api.KCase, "V", "x"), def(87, modM, api.KCase, "V", "x"),
		def(88, modM, api.KFun, "same"), def(88, modM, api.KFun, "same"),
	)
}

func TestBindNames(t *testing.T) {
	for _, x := range []struct {
		text string
		ok   bool
	}{
		// Slots and variables
		{"rec N (x Int, y Int, x Bool)", false}, {"case N (x Int, x Int)", false}, {"fun n (a Int, a Int) Int = 1", false}, {"test n (a Int 1, b Int 2, b Bool 3) Int = a", false}, {"on n (a Int, A Int) Int = 1", true},
		{"fun n (a Int) Int = b", false}, {"fun n (a Int) Int = n", false}, {"fun f () Int = f", false}, {"fun n (a Int) Int = let x = x in a", false}, {"fun n (a Int) Int = (let x = a in x) + x", false},
		{"fun n () Int = fold x, y = 1 over x do 1", false}, {"fun n () Int = fold x, y = y over 1 do 1", false}, {"fun n () Int = (fold x, y = 1 over 1 do x) + y", false}, {"fun n () Int = fold x, y = 1 over 1 do z", false},
		{"fun n () Int = match S (x) {A x -> 1, B y -> 1}", false}, {"fun n () Int = match S (1) {A x -> y, B y -> 1}", false}, {"fun n () Int = match S (1) {A x -> 1, B y -> x}", false}, {"fun n () Int = match S (1) {A x -> 1, B y -> A}", false}, {"fun n () Int = 1 + match S (1) {A x -> x, B y -> y}", true},
		// Types
		{"rec N (x P)", true}, {"rec N (x f)", false}, {"rec N (x c)", false}, {"rec N (x t)", false}, {"rec N (x o)", false}, {"rec N (x N)", false}, {"rec N (x k.S)", false}, {"rec N (x j.h)", false}, {"rec N (x z.P)", false}, {"rec N (x List(R))", false}, {"rec N (x F)", true}, {"rec N (x C)", false}, {"rec N (x X)", true}, {"rec N (x V)", false},
		{"rec N (x G)", false}, {"rec N (x k.G)", true}, {"rec N (x m.P)", false}, {"rec N (x m.S)", true}, {"fun n () Nothing = 1", false}, {"fun n () List(k.Nothing) = 1", false}, {"fun n () Int = List(f) []", false}, {"fun n () Int = List(List(E)) []", true},
		// Calls
		{"fun n () Int = f()", true}, {"fun n () Int = c()", true}, {"fun n () Int = P()", false}, {"fun n () Int = S()", false}, {"fun n () Int = t()", false}, {"fun n () Int = o()", false}, {"fun n () Int = n()", false}, {"fun n () Int = h()", false}, {"fun n () Int = j.h()", false}, {"fun n () Int = k.h()", false}, {"fun n () Int = m.g()", false},
		{"fun n () Int = R()", true}, {"fun n () Int = F()", true}, {"fun n () Int = C()", false}, {"fun n () Int = G()", false}, {"fun n () Int = k.G()", false}, {"fun n () Int = only()", true}, {"fun n () Int = m.only()", true}, {"fun n () Int = same()", true}, {"fun n (f Int) Int = f()", true},
		// Records and fields
		{"fun n () Int = P {x = 1, y = 2}", true}, {"fun n () Int = P {x = 1}", false}, {"fun n () Int = P {y = 1}", false}, {"fun n () Int = P {}", false}, {"fun n () Int = P {x = 1, x = 2}", false}, {"fun n () Int = P {x = 1, y = 2, x = 3}", false}, {"fun n () Int = P {x = 1, y = 2, z = 3}", false}, {"fun n () Int = P {x = 1, z = 2}", false}, {"fun n () Int = P {z = 2, y = 1}", false},
		{"fun n () Int = Q {}", true}, {"fun n () Int = Q {x = 1}", false}, {"fun n () Int = k.P {z = 1}", true}, {"fun n () Int = k.P {x = 1, y = 1}", false}, {"fun n () Int = S {A = 1, B = 2}", false}, {"fun n () Int = f {a = 1}", false}, {"fun n () Int = E {}", false}, {"fun n () Int = Nothing {}", false}, {"fun n () Int = P {x = x, y = 1}", false},
		{"fun n () Int = R {x = 1}", false}, {"fun n () Int = F {x = 1}", true}, {"fun n () Int = C {x = 1}", true}, {"fun n () Int = X {x = 1, x = 2}", false}, {"fun n () Int = X {x = 1}", false}, {"fun n () Int = X {x = 1, y = 2}", false}, {"fun n () Int = X {}", false},
		{"fun n () Int = P:x[1]", true}, {"fun n () Int = P:z[1]", false}, {"fun n () Int = k.P:z[1]", true}, {"fun n () Int = Q:x[1]", false}, {"fun n () Int = S:A[1]", false}, {"fun n () Int = f:a[1]", false}, {"fun n () Int = R:x[1]", false}, {"fun n () Int = C:x[1]", true}, {"fun n () Int = X:x[1]", false}, {"fun n () Int = P:x[x]", false},
		// Cases and matches
		{"fun n () Int = S:A(1)", true}, {"fun n () Int = S:C(1)", false}, {"fun n () Int = k.S:A(1)", false}, {"fun n () Int = P:x(1)", false}, {"fun n () Int = E:A(1)", false}, {"fun n () Int = f:a(1)", false}, {"fun n () Int = C:x(1)", true}, {"fun n () Int = V:x(1)", false}, {"fun n () Int = Y:x(1)", false}, {"fun n () Int = Y:y(1)", true}, {"fun n () Int = S:A(a)", false},
		{"fun n () Int = match S (1) {A x -> 1, B x -> 1}", true}, {"fun n () Int = match S (1) {A x -> 1}", false}, {"fun n () Int = match S (1) {B x -> 1}", false}, {"fun n () Int = match S (1) {A x -> 1, A x -> 1}", false}, {"fun n () Int = match S (1) {A x -> 1, B x -> 1, A x -> 1}", false}, {"fun n () Int = match S (1) {A x -> 1, B x -> 1, C x -> 1}", false}, {"fun n () Int = match S (1) {A x -> 1, C x -> 1}", false},
		{"fun n () Int = match E (1) {A x -> 1}", false}, {"fun n () Int = match P (1) {x a -> 1, y a -> 1}", false}, {"fun n () Int = match k.S (1) {A x -> 1, B x -> 1}", false}, {"fun n () Int = match C (1) {x x -> x}", true}, {"fun n () Int = match V (1) {x x -> x}", false}, {"fun n () Int = match Y (1) {x a -> a, y b -> b, x c -> c}", false}, {"fun n () Int = match Y (1) {x a -> a, y b -> b}", false}, {"fun n () Int = match S (a) {A x -> 1, B x -> 1}", false},
	} {
		f := read(t, x.text)
		if x.ok {
			bound(t, doubled(), f)
			continue
		}
		fails(t, doubled(), id(modM), f, ids(100, 100), api.ErrName)
		fails(t, doubled(), id(modM), f, nil, api.ErrName)
		if f.Kind != api.KFun {
			continue
		}
		// Something that is wrong is found anywhere.
		for _, around := range []string{"1 + hole", "f(1, hole)", "if 1 then hole else hole", "let u = hole in u", "let u = 1 in hole", "fold u, v = 1 over hole do u", "fold u, v = hole over 1 do u", "fold u, v = 1 over 1 do hole", "P {y = 1, x = hole}", "P:x[hole]", "S:A(hole)", "match S (hole) {A u -> 1, B v -> 1}", "match S (1) {B v -> 1, A u -> hole}", "List(Int) [1, hole]", "not hole"} {
			wrong := f
			wrong.Body = filled(read(t, "fun n () Int = "+around).Body, f.Body)
			fails(t, doubled(), id(modM), wrong, ids(100, 100), api.ErrName)
		}
	}
}

// filled returns a term with another one in the place of the variable hole.
func filled(t, x term) term {
	if t.Kind == api.NVar && t.Name == "hole" {
		return x
	}
	for i, kid := range t.Kids {
		t.Kids[i] = filled(kid, x)
	}
	return t
}

func TestBindMeans(t *testing.T) {
	for _, x := range []struct{ text, want string }{
		{"R()", "call@101=62"}, {"F()", "call@101=64"}, {"F {x = 1}", "rec@102=63(int@101/1)"}, {"C {x = 1}", "rec@102=67(int@101/1)"}, {"C:x[1]", "field@102=67(int@101/1)"}, {"C:x(1)", "case@102=66(int@101/1)"}, {"match C (1) {x x -> x}", "match@103=66[x](int@101/1, var@102=103)"},
		{"k.G {x = 1}", "rec@102=81(int@101/1)"}, {"only()", "call@101=85"}, {"m.only()", "call@101=85"}, {"P:x[1]", "field@102=10(int@101/1)"}, {"Y:y(1)", "case@102/1=83(int@101/1)"}, {"same()", "call@101=88"}, {"List(F) []", "list@101:Def=63"},
	} {
		d := bound(t, doubled(), read(t, "fun n () Int = "+x.text))
		if got := show(d.Body); got != x.want {
			t.Errorf("P8.2: the body of %s is %s, not %s", x.text, got, x.want)
		}
	}
}

func TestBindErrors(t *testing.T) {
	good := read(t, "fun n (a Int) Int = a")
	unknown := read(t, "fun n (a Int) Int = b")
	twice := read(t, "rec N (a Int, a Int)")
	wrong := []form{{}, {Kind: -1}, {Kind: 6, Name: "n"}, {Kind: api.KRec, Name: "if"}, {Kind: api.KRec, Name: "k.P"}, {Kind: api.KFun, Name: "n"}, {Kind: api.KRec, Name: "N", Result: word{Name: "Int"}}, {Kind: api.KRec, Name: "N", Body: term{N: 1}}}
	for _, change := range []func(*form){
		func(f *form) { f.Name = "" },
		func(f *form) { f.Slots[0].Name = "1" },
		func(f *form) { f.Slots[0].Most = 1 },
		func(f *form) { f.Slots[0].Type = word{Name: "List"} },
		func(f *form) { f.Slots[0].Type = word{Name: "List", Kids: []word{{Name: "Int"}, {Name: "Int"}}} },
		func(f *form) { f.Slots[0].Type = word{Name: "a.b.c"} },
		func(f *form) { f.Result = word{} },
		func(f *form) { f.Body.Kind = -1 },
		func(f *form) { f.Body.Kind = api.NFold + 1 },
		func(f *form) { f.Body.N = 1 },
		func(f *form) { f.Body.Name = "k.a" },
		func(f *form) { f.Body.Kids = []term{{}} },
		func(f *form) { f.Body = term{N: api.MaxInt + 1} },
		func(f *form) { f.Body = term{Kind: api.NLet, Names: []string{"a"}} },
		func(f *form) { f.Body = term{Kind: api.NFold, Names: []string{"a"}, Kids: make([]term, 3)} },
		func(f *form) { f.Body = term{Kind: api.NMatch, Name: "S", Names: []string{"A"}, Kids: make([]term, 2)} },
		func(f *form) { f.Body = term{Kind: api.NMatch, Name: "S", Kids: make([]term, 1)} },
		func(f *form) { f.Body = term{Kind: api.NMatch, Name: "S"} },
		func(f *form) { f.Body = term{Kind: api.NRec, Name: "P", Names: []string{"x", "y"}} },
		func(f *form) { f.Body = term{Kind: api.NList, Type: word{Name: "List"}} },
	} {
		f := read(t, "fun n (a Int) Int = a")
		change(&f)
		wrong = append(wrong, f)
	}
	for _, next := range [][]api.ID{nil, ids(100, 1), ids(100, 2), ids(100, 50)} {
		for _, mod := range []api.ID{{}, id(99), id(recP), {Shop: 1, Seq: 1, Index: modM}, {Shop: 2, Seq: 2, Index: modM}} {
			for _, f := range append(wrong, good, unknown, twice) {
				fails(t, world(), mod, f, next, api.ErrNone)
			}
		}
		for _, f := range wrong {
			fails(t, world(), id(modM), f, next, api.ErrForm)
		}
		for _, f := range []form{unknown, twice} {
			fails(t, world(), id(modM), f, next, api.ErrName)
		}
		if len(next) < 3 {
			fails(t, world(), id(modM), good, next, api.ErrLimit)
		}
	}
	fails(t, api.Prog{}, api.ID{}, good, ids(100, 50), api.ErrNone)
}

// TestBindPlaces has modules and definitions that do not exist, or share their IDs with others.
func TestBindPlaces(t *testing.T) {
	p := world()
	p.Mods = append([]api.Mod{{ID: id(6), Name: "a", Uses: ids(modK, 3)}}, append(p.Mods, api.Mod{ID: id(modJ), Name: "k"}, api.Mod{ID: id(6), Name: "b", Uses: ids(modM, 1)})...)
	p = with(p, api.Def{ID: id(60), Kind: api.KRec, Mod: id(6), Name: "N", Slots: slots(61, "x")}, api.Def{ID: id(60), Kind: api.KFun, Mod: id(6), Name: "N"}, api.Def{ID: id(69), Kind: api.KFun, Mod: id(5), Name: "lost"})
	for _, x := range []struct {
		mod  int
		text string
		want api.Errno
	}{
		{6, "g()", api.OK}, {6, "h()", api.OK}, {6, "j.h()", api.OK}, {6, "k.h()", api.ErrName}, {6, "f()", api.OK}, {6, "m.f()", api.ErrName}, {6, "a.N {x = 1}", api.OK}, {6, "b.N {x = 1}", api.ErrName}, {6, "N()", api.ErrName}, {6, "lost()", api.ErrName},
		{5, "lost()", api.ErrNone}, {modJ, "h()", api.OK}, {modJ, "g()", api.ErrName}, {modK, "f()", api.OK}, {modK, "m.f()", api.ErrName},
	} {
		d, _, e := scope.Bind(p, id(x.mod), read(t, "fun n () Int = "+x.text), ids(100, 50))
		if e != x.want || e == api.OK && d.Mod != id(x.mod) {
			t.Errorf("P8.2: Bind of %s in the module %d is %v, %d", x.text, x.mod, d, e)
		}
	}
}

func TestBindShares(t *testing.T) {
	text := "test n (a List(k.P) 1, b Int 2) List(Bool) = let x = List(List(Int)) [1] in fold u, v = x over a do match S (P {y = u, x = v}) {B p -> p, A q -> g(q)}"
	p, next := world(), ids(100, 60)
	apart(t, "P8.2", []any{p, read(t, text), next}, func(l []any) any {
		d, _, e := scope.Bind(l[0].(api.Prog), id(modM), l[1].(form), l[2].([]api.ID))
		if e != api.OK {
			t.Fatalf("P8.2: Bind fails with %d", e)
		}
		return d
	})
	apart(t, "P8.1", []any{p}, func(l []any) any { return scope.Find(l[0].(api.Prog), id(modM), "g") })
}
