package scope_test

import (
	"math"
	"reflect"
	"slices"
	"strings"
	"testing"

	"splicery/api"
	"splicery/scope"
)

// changed returns an expression, changed by a function that is called with each of its nodes.
func changed(e api.Expr, change func(*api.Expr)) api.Expr {
	kids := e.Kids
	e.Kids, e.Names = nil, slices.Clone(e.Names)
	for _, kid := range kids {
		e.Kids = append(e.Kids, changed(kid, change))
	}
	change(&e)
	return e
}

// renamed returns a definition whose slots and nodes have other names: in pairs, the names that they have and those that they get.
func renamed(d api.Def, pairs string) api.Def {
	other := func(s string) string {
		l := strings.Fields(pairs)
		for i := 0; i < len(l); i += 2 {
			if l[i] == s {
				return l[i+1]
			}
		}
		return s
	}
	d.Slots = slices.Clone(d.Slots)
	for i := range d.Slots {
		d.Slots[i].Name = other(d.Slots[i].Name)
	}
	d.Body = changed(d.Body, func(e *api.Expr) {
		for i, s := range e.Names {
			e.Names[i] = other(s)
		}
	})
	return d
}

// unbound returns the form of a definition of world.
func unbound(t *testing.T, p api.Prog, d api.Def) form {
	t.Helper()
	f, e := scope.Unbind(with(p, d), d.ID)
	if e != api.OK {
		t.Fatalf("P8.3: Unbind of %+v fails with %d", d, e)
	}
	return f
}

// refuses checks that a definition with the ID 100 has no form.
func refuses(t *testing.T, p api.Prog, d api.Def, want api.Errno) {
	t.Helper()
	d.ID = id(100)
	if f, e := scope.Unbind(with(p, d), d.ID); e != want || !reflect.DeepEqual(f, form{}) {
		t.Errorf("P8.3: Unbind of %+v is %+v, %d instead of the error %d", d, f, e, want)
	}
}

func TestUnbindForms(t *testing.T) {
	for _, x := range []struct{ text, want string }{
		{"rec N ()", ""}, {"rec N (x Int, y List(Bool))", ""}, {"case N (A P, B k.P, C List(List(T)))", ""}, {"fun n () Int = 1", ""}, {"on n (s P, e Q) S = 1", ""}, {"test n (a Int 0, b Bool 7, c S 1099511627776) Bool = 1", ""}, {"conv n (a P) P = a", ""}, {"conv n () List(k.P) = 1", ""},
		{"fun n (a m.P) k.T = m.f(k.g(k.f(), 1))", "fun n (a P) T = f(g(k.f(), 1))"}, {"fun n () Int = List(m.S) []", "fun n () Int = List(S) []"},
		{"fun n () Int = -1 + 1099511627776 - -1099511627776", ""}, {"fun n () Int = true or false and not true", ""}, {"fun n (a Int) Int = len a join a < a % 3 - a / 2 * 1", ""}, {"fun n (a Int) Int = a == a", ""},
		{"fun n (a Int) Int = if a then g(a, 1) else c(let x = a in x)", ""},
		{"fun n () Int = P {y = 1, x = 2}", "fun n () Int = P {x = 2, y = 1}"}, {"fun n () Int = Q {}", ""}, {"fun n () Int = k.Q {}", "fun n () Int = Q {}"}, {"fun n () Int = P:y[k.P {z = 1}]", ""}, {"fun n () Int = k.P:z[k.T:F(1)]", "fun n () Int = k.P:z[T:F(1)]"},
		{"fun n () Int = match S (1) {B x -> x, A y -> y}", "fun n () Int = match S (1) {A y -> y, B x -> x}"}, {"fun n () Int = match k.T (1) {D d -> 2, F f -> 3, C c -> 1}", "fun n () Int = match T (1) {C c -> 1, D d -> 2, F f -> 3}"},
		{"fun n () Int = List(List(Bool)) [1, 2]", ""}, {"fun n () Int = fold u, v = 1 over 2 do u + v", ""},
	} {
		f := read(t, x.text)
		if x.want == "" {
			x.want = x.text
		}
		d, _, e := scope.Bind(world(), id(modM), f, ids(100, 50))
		if e != api.OK {
			t.Fatalf("P8.2: Bind of %s fails with %d", x.text, e)
		}
		got, want := unbound(t, world(), d), read(t, x.want)
		want.Layout = got.Layout
		if !reflect.DeepEqual(got, want) {
			t.Errorf("P8.3: the form of %s is %+v, not %+v", x.text, got, want)
		}
	}
}

func TestUnbindNames(t *testing.T) {
	const long, other, next = "abcdefghijklmnop", "abcdefghijklmno1", "abcdefghijklmno2"
	for _, x := range []struct{ body, pairs, want string }{
		// Names that may stay
		{"let b = 1 in b", "b a", "let a = 1 in a"}, {"let b = a in b", "b a", "let a = a in a"}, {"(let b = 1 in b) + a", "b a", "(let a = 1 in a) + a"}, {"a + (let b = 1 in 2)", "b a", "a + (let a = 1 in 2)"},
		{"let b = 1 in let c = b in c", "b a c a", "let a = 1 in let a = a in a"}, {"let b = 1 in let c = 2 in c", "b a c a", "let a = 1 in let a = 2 in a"}, {"fold x, y = 1 over 2 do y", "y x", "fold x, x = 1 over 2 do x"}, {"fold x, y = 1 over 2 do y", "x a y a", "fold a, a = 1 over 2 do a"},
		{"match S (a) {A x -> x, B y -> y}", "x a y a", "match S (a) {A a -> a, B a -> a}"}, {"fold x, y = a over a do x + y", "x a", "fold a, y = a over a do a + y"}, {"fold x, y = a over a do x + y", "y a", "fold x, a = a over a do x + a"},
		{"let b = 1 in let c = 2 in a + c", "b x c x", "let x = 1 in let x = 2 in a + x"},
		// Names that would hide a slot
		{"let b = 1 in a", "b a", "let a1 = 1 in a"}, {"let b = 1 in a + b", "b a", "let a1 = 1 in a + a1"}, {"let b = a in let c = b in a", "b a c a", "let a1 = a in let a1 = a1 in a"}, {"let b = let c = a in c in a", "b a c a", "let a1 = let a = a in a in a"},
		{"fold x, y = 1 over 2 do a", "x a", "fold a1, y = 1 over 2 do a"}, {"fold x, y = 1 over 2 do a", "y a", "fold x, a1 = 1 over 2 do a"}, {"fold x, y = 1 over 2 do a", "x a y a", "fold a1, a1 = 1 over 2 do a"}, {"fold x, y = 1 over 2 do a + x", "x a y a", "fold a1, a2 = 1 over 2 do a + a1"}, {"fold x, y = 1 over 2 do a + y", "x a y a", "fold a1, a1 = 1 over 2 do a + a1"}, {"fold x, y = 1 over 2 do a + x + y", "x a y a", "fold a1, a2 = 1 over 2 do a + a1 + a2"},
		{"match S (1) {A x -> a, B y -> y}", "x a y a", "match S (1) {A a1 -> a, B a -> a}"}, {"match S (1) {A x -> x, B y -> a}", "x a y a", "match S (1) {A a -> a, B a1 -> a}"}, {"match S (1) {A x -> x, B y -> y + a}", "x a y a", "match S (1) {A a -> a, B a1 -> a1 + a}"},
		// Names that would hide a node
		{"let b = 1 in let c = 2 in b", "c b", "let b = 1 in let b1 = 2 in b"}, {"let b = 1 in let c = 2 in b + c", "b x c x", "let x = 1 in let x1 = 2 in x + x1"}, {"fold x, y = 1 over 2 do x", "y x", "fold x, x1 = 1 over 2 do x"}, {"fold x, y = 1 over 2 do x + y", "y x", "fold x, x1 = 1 over 2 do x + x1"},
		{"fold x, y = 1 over 2 do let z = 3 in x", "y x z x", "fold x, x1 = 1 over 2 do let x1 = 3 in x"}, {"fold x, y = 1 over 2 do let z = 3 in y", "y x z x", "fold x, x = 1 over 2 do let x1 = 3 in x"}, {"fold x, y = 1 over 2 do let z = 3 in x + y + z", "y x z x", "fold x, x1 = 1 over 2 do let x2 = 3 in x + x1 + x2"},
		{"match S (1) {A x -> let z = 1 in x, B y -> let z = 1 in y}", "x u y z z u", "match S (1) {A u -> let u1 = 1 in u, B z -> let u = 1 in z}"},
		{"let b = 1 in let c = 2 in let d = 3 in b", "c b d b", "let b = 1 in let b1 = 2 in let b1 = 3 in b"}, {"let b = 1 in let c = 2 in let d = 3 in b + c + d", "c b d b", "let b = 1 in let b1 = 2 in let b2 = 3 in b + b1 + b2"}, {"let b = 1 in let c = 2 in let d = 3 in c", "c b d b", "let b = 1 in let b = 2 in let b1 = 3 in b"},
		// What hides is the local name, not the one that stands in Names.
		{"let b = 1 in let c = 2 in a + b + c", "b a c a1", "let a1 = 1 in let a11 = 2 in a + a1 + a11"}, {"let b = 1 in let c = 2 in a + b", "b a c a1", "let a1 = 1 in let a11 = 2 in a + a1"}, {"let b = 1 in let c = 2 in a + c", "b a c a1", "let a1 = 1 in let a1 = 2 in a + a1"}, {"let b = a in let c = b in b + c", "b a c a", "let a = a in let a1 = a in a + a1"},
		{"let b = 1 in let c = 2 in let d = 3 in a + b + d", "b a c a1 d a", "let a1 = 1 in let a11 = 2 in let a2 = 3 in a + a1 + a2"},
		// Numbers that are taken
		{"let b = 1 in let c = 2 in a + b + c", "b a1 c a", "let a1 = 1 in let a2 = 2 in a + a1 + a2"}, {"let b = 1 in let c = 2 in a + c", "b a1 c a", "let a1 = 1 in let a1 = 2 in a + a1"}, {"let b = 1 in let c = 2 in let d = 3 in a + b + c + d", "b a2 c a1 d a", "let a2 = 1 in let a1 = 2 in let a3 = 3 in a + a2 + a1 + a3"}, {"let b = 1 in let c = 2 in let d = 3 in a + b + d", "b a2 c a1 d a", "let a2 = 1 in let a1 = 2 in let a1 = 3 in a + a2 + a1"},
		{"let b = 1 in let c = 2 in let d = 3 in a + c + d", "b a1 c a2 d a", "let a1 = 1 in let a2 = 2 in let a1 = 3 in a + a2 + a1"}, {"let b = 1 in let c = 2 in b + c", "b a9 c a9", "let a9 = 1 in let a91 = 2 in a9 + a91"},
		// Long names
		{"let b = 1 in a", "a " + long + " b " + long, "let " + other + " = 1 in " + long}, {"let b = 1 in a + b", "a " + long + " b " + long, "let " + other + " = 1 in " + long + " + " + other}, {"let b = 1 in a + b", "a " + long[:15] + " b " + long[:15], "let " + other + " = 1 in " + long[:15] + " + " + other}, {"let b = 1 in a + b", "a " + long[:14] + " b " + long[:14], "let " + long[:14] + "1 = 1 in " + long[:14] + " + " + long[:14] + "1"},
		{"let b = 1 in a", "a " + other + " b " + other, "let " + next + " = 1 in " + other}, {"let b = 1 in a", "a " + next + " b " + next, "let " + other + " = 1 in " + next}, {"let b = 1 in let c = 2 in a + b", "a " + long + " b " + other + " c " + long, "let " + other + " = 1 in let " + next + " = 2 in " + long + " + " + other}, {"let b = 1 in let c = 2 in a", "a " + long + " b " + other + " c " + long, "let " + other + " = 1 in let " + other + " = 2 in " + long},
		{"let b = 1 in let c = 2 in a + b", "a " + long[:15] + " b " + long + " c " + long, "let " + long + " = 1 in let " + other + " = 2 in " + long[:15] + " + " + long}, {"fold x, y = 1 over 2 do a + x + y", "a " + long + " x " + long + " y " + long, "fold " + other + ", " + next + " = 1 over 2 do " + long + " + " + other + " + " + next},
	} {
		d, _, e := scope.Bind(world(), id(modM), read(t, "fun n (a Int) Int = "+x.body), ids(100, 50))
		if e != api.OK {
			t.Fatalf("P8.2: Bind of %s fails with %d", x.body, e)
		}
		d = renamed(d, x.pairs)
		want := "fun n (" + d.Slots[0].Name + " Int) Int = " + x.want
		if got := unbound(t, world(), d); written(got) != written(read(t, want)) {
			t.Errorf("P8.3: the form of %s with the names %s is %s", x.body, x.pairs, written(got))
		}
		boundAgain(t, world(), d)
	}
}

// TestManyNames has so many variables with one name that the numbers have two digits.
func TestManyNames(t *testing.T) {
	for _, name := range []string{"x", "abcdefghijklm", "abcdefghijklmn", "abcdefghijklmno", "abcdefghijklmnop", "abcdefghijklmno1", "abcdefghijklmn11"} {
		e := api.Expr{ID: id(500), N: 1}
		for i := range 120 {
			e = api.Expr{ID: id(300 + i), Kind: api.NOp, Kids: []api.Expr{e, {ID: id(600 + i), Kind: api.NVar, Ref: id(1000 + i)}}}
		}
		for i := range 120 {
			e = api.Expr{ID: id(1000 + i), Kind: api.NLet, Names: []string{name}, Kids: []api.Expr{{ID: id(2000 + i)}, e}}
		}
		d := api.Def{ID: id(100), Mod: id(modM), Kind: api.KFun, Name: "n", Body: e}
		f := unbound(t, world(), d)
		taken := map[string]bool{}
		for x := f.Body; x.Kind == api.NLet; x = x.Kids[1] {
			want := name
			for i := 1; taken[want]; i++ {
				want = numbered(name, i)
			}
			if x.Names[0] != want {
				t.Fatalf("P8.3: behind %d names %s the next one is %s, not %s", len(taken), name, x.Names[0], want)
			}
			taken[want] = true
		}
		if len(taken) != 120 {
			t.Errorf("P8.3: there are %d names", len(taken))
		}
		boundAgain(t, world(), d)
	}
}

// TestUnbindTests has bounds of slots, which count for tests alone.
func TestUnbindTests(t *testing.T) {
	for kind := api.KRec; kind <= api.KConv; kind++ {
		for _, most := range []int{0, 1, api.MaxInt, api.MaxInt + 1, -1, math.MaxInt, math.MinInt} {
			d := api.Def{ID: id(100), Kind: kind, Mod: id(modM), Name: "n", Slots: slots(101, "a", "b")}
			d.Slots[1].Most = most
			want := 0
			if kind == api.KTest {
				want = most
			}
			if want < 0 || want > api.MaxInt {
				refuses(t, world(), d, api.ErrName)
				continue
			}
			if f := unbound(t, world(), d); f.Kind != kind || f.Slots[0].Most != 0 || f.Slots[1].Most != want {
				t.Errorf("P8.3: the form of %+v is %+v", d, f)
			}
		}
	}
}

// TestUnbindKinds has results and bodies of definitions that have none, and kinds that there are not.
func TestUnbindKinds(t *testing.T) {
	for _, x := range []struct {
		kind       int
		isBody, is bool
	}{{-1, false, false}, {api.KRec, false, true}, {api.KCase, false, true}, {api.KFun, true, true}, {api.KOn, true, true}, {api.KTest, true, true}, {api.KConv, true, true}, {api.KConv + 1, false, false}, {math.MinInt, false, false}, {math.MaxInt, false, false}} {
		for _, dead := range []bool{true, false} {
			d := api.Def{ID: id(100), Kind: x.kind, Mod: id(modM), Name: "n", Result: truth, Body: api.Expr{ID: id(101), N: 1}}
			if dead {
				d.Result, d.Body = of(99), api.Expr{Kind: -1}
			}
			switch {
			case !x.is:
				refuses(t, world(), d, api.ErrName)
			case dead && x.isBody:
				refuses(t, world(), d, api.ErrDead)
			default:
				f := unbound(t, world(), d)
				if isEmpty := f.Result.Name == "" && reflect.DeepEqual(f.Body, term{}); isEmpty == x.isBody || f.Kind != x.kind || f.Name != "n" {
					t.Errorf("P8.3: the form of %+v is %+v", d, f)
				}
			}
		}
	}
}

// function returns a function of the module m with two slots, a and b, and a body.
func function(e api.Expr) api.Def {
	return api.Def{ID: id(100), Kind: api.KFun, Mod: id(modM), Name: "n", Slots: slots(101, "a", "b"), Body: e}
}

// node returns a node with kids, which are numbers if nothing else is said of them.
func node(kind, n, ref, kids int, names ...string) api.Expr {
	e := api.Expr{ID: id(110), Kind: kind, N: n, Names: names}
	if ref > 0 {
		e.Ref = id(ref)
	}
	for i := range kids {
		e.Kids = append(e.Kids, api.Expr{ID: id(111 + i), N: i})
	}
	return e
}

// given returns a node with a kid in the place of another one.
func given(e api.Expr, i int, kid api.Expr) api.Expr {
	e.Kids = slices.Clone(e.Kids)
	e.Kids[i] = kid
	return e
}

// good has a right node of each kind.
func good() []api.Expr {
	l := []api.Expr{
		node(api.NInt, 0, 0, 0), node(api.NInt, api.MaxInt, 0, 0), node(api.NInt, -api.MaxInt, 0, 0), node(api.NBool, 0, 0, 0), node(api.NBool, 1, 0, 0), node(api.NVar, 0, 101, 0), node(api.NVar, 0, 102, 0),
		node(api.NCall, 0, funF, 1), node(api.NCall, 0, convC, 1), node(api.NCall, 0, funG, 2), node(api.NCall, 0, funKF, 0), node(api.NIf, 0, 0, 3), node(api.NLet, 0, 0, 2, "x"), node(api.NFold, 0, 0, 3, "x", "y"),
		node(api.NRec, 0, recP, 2), node(api.NRec, 0, recQ, 0), node(api.NField, 0, recP, 1), node(api.NField, 1, recP, 1), node(api.NCase, 0, caseS, 1), node(api.NCase, 2, caseT, 1), node(api.NMatch, 0, caseS, 3, "x", "y"), node(api.NMatch, 0, caseT, 4, "x", "y", "z"),
		node(api.NList, 0, 0, 0), node(api.NList, 0, 0, 1), node(api.NList, 0, 0, 20),
	}
	for op := api.Add; op <= api.Len; op++ {
		kids := 2
		if op == api.Not || op == api.Len {
			kids = 1
		}
		l = append(l, node(api.NOp, op, 0, kids))
	}
	return l
}

func TestGoodNodes(t *testing.T) {
	for _, e := range good() {
		d := function(e)
		f := unbound(t, world(), d)
		boundAgain(t, world(), d)
		// Fields that are not used may have any value.
		unused := e
		switch e.Kind {
		case api.NIf, api.NLet, api.NFold, api.NRec, api.NMatch, api.NList, api.NCall:
			unused.N = -7
		}
		switch e.Kind {
		case api.NInt, api.NBool, api.NOp, api.NIf, api.NLet, api.NFold, api.NList:
			unused.Ref = id(99)
		}
		if e.Kind != api.NList {
			unused.Type = api.Type{Kind: -1, Def: id(99), Kids: []api.Type{{Kind: 9}}}
		}
		if got := unbound(t, world(), function(unused)); !reflect.DeepEqual(got, f) {
			t.Errorf("P8.3: with fields that are not used the form of %s is %+v, not %+v", show(e), got, f)
		}
	}
}

func TestDeadNodes(t *testing.T) {
	bad := []api.Expr{node(-1, 0, 0, 0), node(api.NFold+1, 0, 0, 0), node(math.MinInt, 0, 0, 0), node(math.MaxInt, 0, 0, 3), node(-1, 0, recP, 3), node(-1, 0, recP, 2), node(api.NFold+1, 0, caseS, 3), node(api.NFold+1, 0, caseS, 3, "x", "y"), node(api.NFold+1, 0, funF, 2), node(api.NFold+1, 0, funF, 1)}
	for _, n := range []int{api.MaxInt + 1, -api.MaxInt - 1, math.MaxInt, math.MinInt} {
		bad = append(bad, node(api.NInt, n, 0, 0), node(api.NBool, n, 0, 0), node(api.NOp, n, 0, 2), node(api.NField, n, recP, 1), node(api.NCase, n, caseS, 1), node(api.NVar, n, 101, 0))
	}
	bad = append(bad, node(api.NBool, 2, 0, 0), node(api.NBool, -1, 0, 0), node(api.NOp, -1, 0, 2), node(api.NOp, api.Len+1, 0, 1), node(api.NOp, api.Len+1, 0, 0), node(api.NOp, api.Len+1, 0, 2))
	for _, e := range good() {
		for n := range 8 { // another number of kids, or of names
			if x := node(e.Kind, e.N, e.Ref.Index, n, e.Names...); n != len(e.Kids) && e.Kind != api.NList {
				bad = append(bad, x)
			}
			if x := node(e.Kind, e.N, e.Ref.Index, len(e.Kids), slices.Repeat([]string{"x"}, n)...); n != len(e.Names) {
				bad = append(bad, x)
			}
			if x := node(e.Kind, e.N, e.Ref.Index, n, slices.Repeat([]string{"x"}, max(n-1, 0))...); e.Kind == api.NMatch && n != len(e.Kids) {
				bad = append(bad, x)
			}
		}
		right := map[int][]int{api.NCall: {funF, convC, funG, funKF, funH}, api.NRec: {recP, recKP, recQ}, api.NField: {recP, recKP, recQ}, api.NCase: {caseS, caseT, caseE}, api.NMatch: {caseS, caseT, caseE}}[e.Kind]
		for _, ref := range []int{0, recP, caseS, funF, convC, testT, onO, recKP, caseT, funG, recQ, caseE, funKF, funH, 99, 100, 101, 110, modM} {
			if right == nil || slices.Contains(right, ref) || e.Kind == api.NCall && ref == 100 {
				continue // the function 100, too, may be called
			}
			bad = append(bad, node(e.Kind, e.N, ref, len(e.Kids), e.Names...))
		}
	}
	bad = append(bad,
		node(api.NField, 2, recP, 1), node(api.NField, -1, recP, 1), node(api.NField, 0, recQ, 1), node(api.NCase, 2, caseS, 1), node(api.NCase, 3, caseT, 1), node(api.NCase, -1, caseT, 1), node(api.NCase, 0, caseE, 1), node(api.NMatch, 0, caseE, 1), node(api.NMatch, 0, caseE, 0),
		node(api.NCall, 0, 100, 1), node(api.NCall, 0, funH, 1), node(api.NRec, 0, recKP, 2), node(api.NVar, 1, 101, 0), node(api.NVar, -1, 101, 0), node(api.NVar, 0, 99, 0), node(api.NVar, 0, 110, 0), node(api.NVar, 0, 44, 0), node(api.NVar, 0, 0, 0), node(api.NVar, 0, 103, 0), node(api.NVar, 0, 100, 0),
	)
	for _, e := range bad {
		refuses(t, world(), function(e), api.ErrDead)
		for _, around := range good() { // also in the place of any kid of any node
			for i := range min(len(around.Kids), 5) {
				kid := changed(e, func(x *api.Expr) { x.ID.Index += 50 })
				if kid.Ref == id(110) {
					continue // this could be bound
				}
				refuses(t, world(), function(given(around, i, kid)), api.ErrDead)
			}
		}
	}
}

func TestVariables(t *testing.T) {
	v := func(n int) api.Expr { return api.Expr{ID: id(120), Kind: api.NVar, Ref: id(110), N: n} }
	let, fold, match := node(api.NLet, 0, 0, 2, "x"), node(api.NFold, 0, 0, 3, "x", "y"), node(api.NMatch, 0, caseT, 4, "x", "y", "z")
	for _, x := range []struct {
		e    api.Expr
		kid  int
		want []string // the names of the variables 0, 1, 2 and 3 there, if they are bound
	}{
		{let, 0, nil}, {let, 1, []string{"x"}}, {fold, 0, nil}, {fold, 1, nil}, {fold, 2, []string{"x", "y"}}, {match, 0, nil}, {match, 1, []string{"x"}}, {match, 2, []string{"", "y"}}, {match, 3, []string{"", "", "z"}},
		{node(api.NIf, 0, 0, 3), 1, nil}, {node(api.NRec, 0, recP, 2), 1, nil}, {node(api.NList, 0, 0, 2), 0, nil},
	} {
		for n := -1; n < 4; n++ {
			for _, wrap := range []func(api.Expr) api.Expr{func(e api.Expr) api.Expr { return e }, func(e api.Expr) api.Expr {
				return api.Expr{ID: id(130), Kind: api.NOp, N: api.Not, Kids: []api.Expr{e}}
			}} {
				d := function(given(x.e, x.kid, wrap(v(n))))
				if n < 0 || n >= len(x.want) || x.want[n] == "" {
					refuses(t, world(), d, api.ErrDead)
					continue
				}
				f := unbound(t, world(), d).Body.Kids[x.kid]
				if f.Kind == api.NOp {
					f = f.Kids[0]
				}
				if f.Kind != api.NVar || f.Name != x.want[n] {
					t.Errorf("P8.3: in the kid %d of %s the name %d is %+v", x.kid, show(x.e), n, f)
				}
				boundAgain(t, world(), d)
			}
		}
	}
}

// TestSameIDs has nodes and slots with the same ID: the innermost one counts.
func TestSameIDs(t *testing.T) {
	v := func(ref int) api.Expr { return api.Expr{ID: id(1), Kind: api.NVar, Ref: id(ref)} }
	let := func(n int, name string, value, body api.Expr) api.Expr {
		return api.Expr{ID: id(n), Kind: api.NLet, Names: []string{name}, Kids: []api.Expr{value, body}}
	}
	for _, x := range []struct {
		e    api.Expr
		want string
	}{
		{let(5, "x", v(101), let(5, "y", v(5), v(5))), "let x = a in let y = x in y"},
		{let(5, "x", v(101), let(5, "x", v(5), v(5))), "let x = a in let x = x in x"},
		{let(5, "x", v(101), let(6, "x", v(5), let(5, "y", v(6), v(5)))), "let x = a in let x = x in let y = x in y"},
		{let(5, "x", v(101), let(6, "x", v(5), let(5, "y", v(5), v(5)))), "let x = a in let x1 = x in let y = x in y"},
		{let(5, "x", v(101), api.Expr{ID: id(6), Kind: api.NOp, Kids: []api.Expr{let(5, "y", v(5), v(5)), v(5)}}), "let x = a in (let y = x in y) + x"},
		{let(101, "x", v(101), v(101)), "let x = a in x"}, {let(101, "a", v(101), v(101)), "let a = a in a"}, {let(101, "b", v(101), v(102)), "let b1 = a in b"},
	} {
		if got := written(unbound(t, world(), function(x.e))); got != "fun n (a Int, b Int) Int = "+x.want {
			t.Errorf("P8.3: the form of %s is %s, not %s", show(x.e), got, x.want)
		}
	}
}

// TestSameSlots has slots with the same name: a name hides both.
func TestSameSlots(t *testing.T) {
	v := func(ref int) api.Expr { return api.Expr{ID: id(1), Kind: api.NVar, Ref: id(ref)} }
	for _, x := range []struct {
		e    api.Expr
		want string
	}{
		{v(101), "a"}, {v(102), "a"}, {given(node(api.NLet, 0, 0, 2, "a"), 1, v(101)), "let a1 = 0 in a"}, {given(node(api.NLet, 0, 0, 2, "a"), 1, v(102)), "let a1 = 0 in a"}, {given(node(api.NLet, 0, 0, 2, "a"), 0, v(102)), "let a = a in 1"}, {given(node(api.NLet, 0, 0, 2, "a"), 1, v(110)), "let a = 0 in a"},
	} {
		d := function(x.e)
		d.Slots[1].Name = "a"
		f := unbound(t, world(), d)
		if got := written(f); got != "fun n (a Int, a Int) Int = "+x.want {
			t.Errorf("P8.3: the form of %s is %s, not %s", show(x.e), got, x.want)
		}
		fails(t, world(), id(modM), f, ids(100, 50), api.ErrName)
	}
}

func TestTypes(t *testing.T) {
	for _, x := range []struct {
		is   api.Type
		want string
		e    api.Errno
	}{
		{whole, "Int", 0}, {truth, "Bool", 0}, {listOf(whole), "List(Int)", 0}, {listOf(listOf(truth)), "List(List(Bool))", 0}, {of(recP), "P", 0}, {of(recKP), "k.P", 0}, {listOf(of(caseT)), "List(T)", 0}, {of(caseE), "E", 0},
		// Fields that are not used
		{api.Type{Def: id(99)}, "Int", 0}, {api.Type{Kids: []api.Type{{Kind: 9}}}, "Int", 0}, {api.Type{Kind: api.TBool, Def: id(recP), Kids: make([]api.Type, 2)}, "Bool", 0}, {api.Type{Kind: api.TList, Def: id(99), Kids: make([]api.Type, 1)}, "List(Int)", 0}, {api.Type{Kind: api.TDef, Def: id(recP), Kids: []api.Type{{Kind: -1}}}, "P", 0},
		{api.Type{Kind: -1}, "", api.ErrDead}, {api.Type{Kind: api.TDef + 1}, "", api.ErrDead}, {api.Type{Kind: math.MinInt}, "", api.ErrDead}, {api.Type{Kind: api.TList}, "", api.ErrDead}, {api.Type{Kind: api.TList, Kids: make([]api.Type, 2)}, "", api.ErrDead}, {api.Type{Kind: api.TDef}, "", api.ErrDead},
		{of(99), "", api.ErrDead}, {of(funF), "", api.ErrDead}, {of(convC), "", api.ErrDead}, {of(testT), "", api.ErrDead}, {of(onO), "", api.ErrDead}, {of(101), "", api.ErrDead}, {of(modM), "", api.ErrDead}, {listOf(of(99)), "", api.ErrDead}, {listOf(listOf(api.Type{Kind: 7})), "", api.ErrDead},
		{of(60), "", api.ErrName}, {listOf(of(60)), "", api.ErrName}, {of(61), "", api.ErrName}, {of(62), "", api.ErrName}, {of(63), "", api.ErrName}, {listOf(listOf(of(63))), "", api.ErrName}, {of(64), "", api.ErrName}, {of(65), "", api.ErrName}, {of(66), "k.Int", api.ErrName},
	} {
		// 60 is not seen; 61 and 62 have one name; 63, 64 and 65 have the names of types that are no definitions; and 66 has one, but a module before it.
		p := with(world(), api.Def{ID: id(60), Kind: api.KRec, Mod: id(modJ), Name: "J"}, api.Def{ID: id(61), Kind: api.KRec, Mod: id(modM), Name: "R"}, api.Def{ID: id(62), Kind: api.KCase, Mod: id(modM), Name: "R"},
			api.Def{ID: id(63), Kind: api.KRec, Mod: id(modM), Name: "Int"}, api.Def{ID: id(64), Kind: api.KCase, Mod: id(modM), Name: "Bool"}, api.Def{ID: id(65), Kind: api.KRec, Mod: id(modM), Name: "List"}, api.Def{ID: id(66), Kind: api.KRec, Mod: id(modK), Name: "Int"})
		slot, result, list := function(node(api.NInt, 1, 0, 0)), function(node(api.NInt, 1, 0, 0)), function(node(api.NList, 0, 0, 1))
		slot.Slots[1].Type, result.Result, list.Body.Type = x.is, x.is, x.is
		record := api.Def{ID: id(100), Kind: api.KRec, Mod: id(modM), Name: "N", Slots: slot.Slots}
		for want, d := range map[string]api.Def{"fun n (a Int, b @) Int = 1": slot, "fun n (a Int, b Int) @ = 1": result, "fun n (a Int, b Int) Int = List(@) [0]": list, "rec N (a Int, b @)": record} {
			if x.e != api.OK {
				refuses(t, p, d, x.e)
				continue
			}
			if got := written(unbound(t, p, d)); got != written(read(t, strings.ReplaceAll(want, "@", x.want))) {
				t.Errorf("P8.3: with the type %+v it is %s", x.is, got)
			}
		}
	}
}

// TestUnbindNone has names that are not possible, and definitions without own names.
func TestUnbindNone(t *testing.T) {
	for _, x := range []struct {
		change func(*api.Def)
		want   api.Errno
	}{
		{func(d *api.Def) {}, api.OK},
		{func(d *api.Def) { d.Name = "let" }, api.ErrName}, {func(d *api.Def) { d.Name = "" }, api.ErrName}, {func(d *api.Def) { d.Name = "k.f" }, api.ErrName}, {func(d *api.Def) { d.Name = "abcdefghijklmnopq" }, api.ErrName}, {func(d *api.Def) { d.Name = "abcdefghijklmnop" }, api.OK}, {func(d *api.Def) { d.Name = "P" }, api.OK},
		{func(d *api.Def) { d.Slots[0].Name = "Int" }, api.ErrName}, {func(d *api.Def) { d.Slots[1].Name = "1" }, api.ErrName}, {func(d *api.Def) { d.Slots[0].Name = "abcdefghijklmnopq" }, api.ErrName}, {func(d *api.Def) { d.Slots[0].Name = "n" }, api.OK}, {func(d *api.Def) { d.Slots[0].Name = "b" }, api.OK},
		{func(d *api.Def) { d.Body = node(api.NLet, 0, 0, 2, "in") }, api.ErrName}, {func(d *api.Def) { d.Body = node(api.NLet, 0, 0, 2, "") }, api.ErrName}, {func(d *api.Def) { d.Body = node(api.NLet, 0, 0, 2, "abcdefghijklmnopq") }, api.ErrName}, {func(d *api.Def) { d.Body = node(api.NFold, 0, 0, 3, "x", "y ") }, api.ErrName}, {func(d *api.Def) { d.Body = node(api.NFold, 0, 0, 3, "x.y", "y") }, api.ErrName}, {func(d *api.Def) { d.Body = node(api.NMatch, 0, caseS, 3, "x", "\xff") }, api.ErrName},
		{func(d *api.Def) { d.Body = node(api.NLet, 0, 0, 2, "n") }, api.OK}, {func(d *api.Def) { d.Body = node(api.NLet, 0, 0, 2, "f") }, api.OK},
		// A name that is not possible stays so if it has to be changed.
		{func(d *api.Def) {
			inner := given(node(api.NLet, 0, 0, 2, "abcdefghijklmnopq"), 1, node(api.NVar, 0, 150, 0))
			d.Body = changed(given(node(api.NLet, 0, 0, 2, "abcdefghijklmnopq"), 1, inner), func(e *api.Expr) {
				if e.Kind == api.NLet && e.Kids[1].Kind == api.NLet {
					e.ID = id(150)
				}
			})
		}, api.ErrName},
		// Definitions that it names
		{func(d *api.Def) { d.Body = node(api.NCall, 0, funH, 0) }, api.ErrName}, {func(d *api.Def) { d.Body = node(api.NCall, 0, 60, 0) }, api.ErrName}, {func(d *api.Def) { d.Body = node(api.NCall, 0, 61, 0) }, api.ErrName}, {func(d *api.Def) { d.Body = node(api.NCall, 0, 62, 0) }, api.ErrName}, {func(d *api.Def) { d.Body = node(api.NCall, 0, 63, 0) }, api.ErrName}, {func(d *api.Def) { d.Body = node(api.NCall, 0, 64, 0) }, api.OK}, {func(d *api.Def) { d.Body = node(api.NCall, 0, 100, 2) }, api.OK},
		{func(d *api.Def) { d.Body = node(api.NRec, 0, 65, 1) }, api.ErrName}, {func(d *api.Def) { d.Body = node(api.NField, 0, 65, 1) }, api.ErrName}, {func(d *api.Def) { d.Body = node(api.NRec, 0, 66, 1) }, api.ErrName}, {func(d *api.Def) { d.Body = node(api.NField, 0, 66, 1) }, api.ErrName}, {func(d *api.Def) { d.Body = node(api.NCase, 0, 67, 1) }, api.ErrName}, {func(d *api.Def) { d.Body = node(api.NMatch, 0, 67, 2, "x") }, api.ErrName}, {func(d *api.Def) { d.Body = node(api.NCase, 0, 68, 1) }, api.ErrName}, {func(d *api.Def) { d.Body = node(api.NMatch, 0, 68, 2, "x") }, api.ErrName}, {func(d *api.Def) { d.Body = node(api.NCall, 0, 69, 0) }, api.ErrName},
		// In another module, and in none
		{func(d *api.Def) { d.Mod, d.Body = id(modK), node(api.NCall, 0, funG, 2) }, api.OK}, {func(d *api.Def) { d.Mod, d.Body = id(modK), node(api.NCall, 0, funF, 1) }, api.ErrName}, {func(d *api.Def) { d.Mod, d.Body = id(modJ), node(api.NCall, 0, funH, 0) }, api.OK}, {func(d *api.Def) { d.Mod = id(modJ); d.Slots[0].Type = of(recP) }, api.ErrName}, {func(d *api.Def) { d.Mod = id(99) }, api.OK}, {func(d *api.Def) { d.Mod, d.Body = id(99), node(api.NVar, 0, 101, 0) }, api.OK}, {func(d *api.Def) { d.Mod, d.Body = id(99), node(api.NCall, 0, 100, 2) }, api.ErrName}, {func(d *api.Def) { d.Mod = id(99); d.Result = of(recP) }, api.ErrName},
		// What is dead comes first.
		{func(d *api.Def) { d.Name, d.Result = "let", of(99) }, api.ErrDead}, {func(d *api.Def) {
			d.Body = given(node(api.NOp, 0, 0, 2), 0, node(api.NCall, 0, funH, 0))
			d.Body.Kids[1].Kind = -1
		}, api.ErrDead}, {func(d *api.Def) { d.Slots[0].Name, d.Slots[1].Type = "if", of(99) }, api.ErrDead},
	} {
		// 60 stands in no module, 61 and 62 have one name, and 63, 65, 67 and 69 have names that are not possible, as 66 and 68 have for a slot.
		p := with(world(), api.Def{ID: id(60), Kind: api.KFun, Mod: id(99), Name: "u"}, api.Def{ID: id(61), Kind: api.KFun, Mod: id(modM), Name: "v"}, api.Def{ID: id(62), Kind: api.KFun, Mod: id(modM), Name: "v"}, api.Def{ID: id(63), Kind: api.KFun, Mod: id(modM), Name: "if"}, api.Def{ID: id(64), Kind: api.KFun, Mod: id(modM), Name: "w"},
			api.Def{ID: id(65), Kind: api.KRec, Mod: id(modM), Name: "Int", Slots: slots(80, "x")}, api.Def{ID: id(66), Kind: api.KRec, Mod: id(modM), Name: "U", Slots: slots(81, "if")}, api.Def{ID: id(67), Kind: api.KCase, Mod: id(modM), Name: "1", Slots: slots(82, "x")}, api.Def{ID: id(68), Kind: api.KCase, Mod: id(modM), Name: "V", Slots: slots(83, "x y")}, api.Def{ID: id(69), Kind: api.KFun, Mod: id(modM), Name: "k.f"})
		d := function(node(api.NInt, 1, 0, 0))
		x.change(&d)
		if x.want != api.OK {
			refuses(t, p, d, x.want)
			continue
		}
		if f := unbound(t, p, d); f.Name != d.Name {
			t.Errorf("P8.3: the form of %+v is %+v", d, f)
		}
	}
	for _, n := range []api.ID{{}, id(0), id(99), id(modM), id(44), id(70), {Shop: 1, Seq: 1, Index: funF}, {Shop: 2, Seq: 2, Index: funF}} {
		if f, e := scope.Unbind(world(), n); e != api.ErrNone || !reflect.DeepEqual(f, form{}) {
			t.Errorf("P8.3: Unbind of %v is %+v, %d", n, f, e)
		}
	}
	// The first definition with an ID counts.
	first, second := function(node(api.NInt, 1, 0, 0)), api.Def{ID: id(100), Kind: -1}
	for _, l := range [][]api.Def{{first, second}, {second, first}} {
		f, e := scope.Unbind(with(world(), l...), id(100))
		if l[0].Kind == -1 && e != api.ErrName || l[0].Kind >= 0 && (e != api.OK || f.Name != "n") {
			t.Errorf("P8.3: Unbind of the first one of two is %+v, %d", f, e)
		}
	}
}
