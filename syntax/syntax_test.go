package syntax_test

import (
	"reflect"
	"slices"
	"strings"
	"testing"

	"splicery/api"
	"splicery/lex"
	"splicery/syntax"
)

// The functions of the package have these types.
var (
	_ func(string) (syntax.Source, int)       = syntax.Parse
	_ func(syntax.Form) []string              = syntax.Tokens
	_ func(syntax.Source) []string            = syntax.Heads
	_ func(syntax.Source) bool                = syntax.Valid
	_ func(syntax.Source, syntax.Source) bool = syntax.Same
)

type (
	term = syntax.Term
	word = syntax.Word
	form = syntax.Form
)

// head is a text before which an expression is read as the body of a function.
const head = "module m\n\nfun f () Int = "

func num(n int) term                   { return term{Kind: api.NInt, N: n} }
func name(s string) term               { return term{Kind: api.NVar, Name: s} }
func call(s string, kids ...term) term { return term{Kind: api.NCall, Name: s, Kids: kids} }
func op(n int, kids ...term) term      { return term{Kind: api.NOp, N: n, Kids: kids} }
func choice(a, b, c term) term         { return term{Kind: api.NIf, Kids: []term{a, b, c}} }
func let(s string, value, in term) term {
	return term{Kind: api.NLet, Names: []string{s}, Kids: []term{value, in}}
}
func list(w word, kids ...term) term { return term{Kind: api.NList, Type: w, Kids: kids} }
func field(s, of string, kid term) term {
	return term{Kind: api.NField, Name: s, Field: of, Kids: []term{kid}}
}
func variant(s, of string, kid term) term {
	return term{Kind: api.NCase, Name: s, Field: of, Kids: []term{kid}}
}

func fold(element, value string, over, start, do term) term {
	return term{Kind: api.NFold, Names: []string{element, value}, Kids: []term{over, start, do}}
}

func record(s string, names string, kids ...term) term {
	return term{Kind: api.NRec, Name: s, Names: strings.Fields(names), Kids: kids}
}

func match(s string, names string, kids ...term) term {
	return term{Kind: api.NMatch, Name: s, Names: strings.Fields(names), Kids: kids}
}

// named returns the type of a name, listOf that of lists.
func named(s string) word { return word{Name: s} }
func listOf(w word) word  { return word{Name: "List", Kids: []word{w}} }
func fields(l ...any) []syntax.Field {
	var out []syntax.Field
	for i := 0; i < len(l); i += 3 {
		out = append(out, syntax.Field{Name: l[i].(string), Type: l[i+1].(word), Most: l[i+2].(int)})
	}
	return out
}

// textOf returns the text of a source whose layouts fit.
func textOf(s syntax.Source) string {
	var b strings.Builder
	add := func(tokens, layout []string) {
		if len(layout) == 0 {
			layout = append(lex.Usual(tokens)[:len(tokens):len(tokens)], "\n")
		}
		for i, k := range tokens {
			b.WriteString(layout[i] + k)
		}
		b.WriteString(layout[len(tokens)])
	}
	add(syntax.Heads(s), s.Head)
	for _, f := range s.Defs {
		add(syntax.Tokens(f), f.Layout)
	}
	return b.String() + s.End
}

// texts returns the texts of the tokens that lex.Scan returns for a text.
func texts(s string) []string {
	l, _, _ := lex.Scan(s)
	var out []string
	for _, k := range l {
		out = append(out, k.Text)
	}
	return out
}

// reads checks that Parse reads a text, and P6.5 and P6.6 for it, and returns what is read.
func reads(t *testing.T, s string) syntax.Source {
	t.Helper()
	read, at := syntax.Parse(s)
	if at != -1 {
		t.Fatalf("P6.2: Parse of %.300q returns %d", s, at)
	}
	tokens := syntax.Heads(read)
	for _, f := range read.Defs {
		l := syntax.Tokens(f)
		if len(f.Layout) != len(l)+1 {
			t.Fatalf("P6.2: of %.300q a form with %d tokens has a layout with %d elements", s, len(l), len(f.Layout))
		}
		tokens = append(tokens, l...)
	}
	if !slices.Equal(tokens, texts(s)) {
		t.Fatalf("P6.6: the tokens of what is read of %.300q are %q", s, tokens)
	}
	if text := textOf(read); text != s {
		t.Fatalf("P6.5: the text of what is read of %.300q is %.300q", s, text)
	}
	if !syntax.Valid(read) {
		t.Fatalf("P6.5: what is read of %.300q is not valid", s)
	}
	return read
}

// stops checks that Parse of a text returns an offset, and nothing else.
func stops(t *testing.T, s string, want int) {
	t.Helper()
	read, at := syntax.Parse(s)
	if at != want || !reflect.ValueOf(read).IsZero() {
		t.Errorf("P6.2: Parse of %.300q returns %v, %d, not only %d", s, read, at, want)
	}
}

// body returns the body of the function with an expression.
func body(t *testing.T, expression string) term {
	t.Helper()
	read := reads(t, head+expression)
	if len(read.Defs) != 1 {
		t.Fatalf("P6.2: of %q %d forms are read", expression, len(read.Defs))
	}
	return read.Defs[0].Body
}

// sameTerm compares two terms, as bodies of functions.
func sameTerm(a, b term) bool {
	return syntax.Same(syntax.Source{Defs: []form{{Body: a}}}, syntax.Source{Defs: []form{{Body: b}}})
}

var a, b, c, d = name("a"), name("b"), name("c"), name("d")

func TestExamples(t *testing.T) {
	for s, want := range map[string]term{
		"a + b * 2 - c":           op(api.Sub, op(api.Add, a, op(api.Mul, b, num(2))), c),
		"(a + b) * 2":             op(api.Mul, op(api.Add, a, b), num(2)),
		"Shape:Box(v)":            variant("Shape", "Box", name("v")),
		"Point:x[p]":              field("Point", "x", name("p")),
		"k.f(a, -3)":              call("k.f", a, num(-3)),
		"not a == b":              op(api.Same, op(api.Not, a), b),
		"if a then b else c or d": choice(a, b, op(api.Or, c, d)),
	} {
		if got := body(t, s); !sameTerm(got, want) {
			t.Errorf("P6.2: %q is read as %v", s, got)
		}
	}
	stops(t, head+"(a * b) + 2", len(head))
}

// expressions has, for each line of the grammar of expressions, texts and what they are read as.
func expressions() map[string]term {
	return map[string]term{
		"if a then b else c":                       choice(a, b, c),
		"if if a then b else c then d else a":      choice(choice(a, b, c), d, a),
		"if a then if b then c else d else a":      choice(a, choice(b, c, d), a),
		"if a then b else if c then d else a":      choice(a, b, choice(c, d, a)),
		"if a < b then a + b else a - b":           choice(op(api.Less, a, b), op(api.Add, a, b), op(api.Sub, a, b)),
		"let x = a in b":                           let("x", a, b),
		"let x = let y = a in b in let z = c in d": let("x", let("y", a, b), let("z", c, d)),
		"let x = if a then b else c in x + 1":      let("x", choice(a, b, c), op(api.Add, name("x"), num(1))),
		"fold x, y = a over b do c":                fold("x", "y", b, a, c),
		"fold x, x = 0 over List(Int)[] do x":      fold("x", "x", list(named("Int")), num(0), name("x")),
		"fold x, y = fold z, u = a over b do c over fold z, u = b over c do d do fold z, u = c over d do a": fold("x", "y", fold("z", "u", c, b, d), fold("z", "u", b, a, c), fold("z", "u", d, c, a)),
		"a or b":                               op(api.Or, a, b),
		"a or b or c or d":                     op(api.Or, op(api.Or, op(api.Or, a, b), c), d),
		"a or b and c or d":                    op(api.Or, op(api.Or, a, op(api.And, b, c)), d),
		"a and b and c":                        op(api.And, op(api.And, a, b), c),
		"a < b":                                op(api.Less, a, b),
		"a == b":                               op(api.Same, a, b),
		"a < b and c == d":                     op(api.And, op(api.Less, a, b), op(api.Same, c, d)),
		"(a < b) == (c < d)":                   op(api.Same, op(api.Less, a, b), op(api.Less, c, d)),
		"a join b join c":                      op(api.Join, op(api.Join, a, b), c),
		"a join b == c join d":                 op(api.Same, op(api.Join, a, b), op(api.Join, c, d)),
		"a + b join c - d":                     op(api.Join, op(api.Add, a, b), op(api.Sub, c, d)),
		"a - b + c - d":                        op(api.Sub, op(api.Add, op(api.Sub, a, b), c), d),
		"a - (b + c)":                          op(api.Sub, a, op(api.Add, b, c)),
		"a * b / c % d":                        op(api.Rem, op(api.Div, op(api.Mul, a, b), c), d),
		"a % (b * c)":                          op(api.Rem, a, op(api.Mul, b, c)),
		"a * b + c / d":                        op(api.Add, op(api.Mul, a, b), op(api.Div, c, d)),
		"not a":                                op(api.Not, a),
		"not not len len a":                    op(api.Not, op(api.Not, op(api.Len, op(api.Len, a)))),
		"len a + len b":                        op(api.Add, op(api.Len, a), op(api.Len, b)),
		"len (a join b)":                       op(api.Len, op(api.Join, a, b)),
		"not (if a then b else c)":             op(api.Not, choice(a, b, c)),
		"a + (let x = b in c)":                 op(api.Add, a, let("x", b, c)),
		"0":                                    num(0),
		"12":                                   num(12),
		"1099511627776":                        num(api.MaxInt),
		"-1099511627776":                       num(-api.MaxInt),
		"-1":                                   num(-1),
		"- 1":                                  num(-1),
		"a-1":                                  op(api.Sub, a, num(1)),
		"a - -1":                               op(api.Sub, a, num(-1)),
		"-1 - -1":                              op(api.Sub, num(-1), num(-1)),
		"-1 * 2":                               op(api.Mul, num(-1), num(2)),
		"not -1":                               op(api.Not, num(-1)),
		"true":                                 {Kind: api.NBool, N: 1},
		"false":                                {Kind: api.NBool},
		"a":                                    a,
		"abcdefghijklmnop":                     name("abcdefghijklmnop"),
		"Iff":                                  name("Iff"),
		"g()":                                  call("g"),
		"g(a)":                                 call("g", a),
		"g (a, if b then c else d, a or b)":    call("g", a, choice(b, c, d), op(api.Or, a, b)),
		"k.g(k.g())":                           call("k.g", call("k.g")),
		"k . g ( )":                            call("k.g"),
		"P{}":                                  record("P", ""),
		"P{x = a}":                             record("P", "x", a),
		"k.P{x = a or b, y = Q{x = 1}, x = c}": record("k.P", "x y x", op(api.Or, a, b), record("Q", "x", num(1)), c),
		"S:A(a or b)":                          variant("S", "A", op(api.Or, a, b)),
		"k.S:A(k.S:B(a))":                      variant("k.S", "A", variant("k.S", "B", a)),
		"P:x[let y = a in b]":                  field("P", "x", let("y", a, b)),
		"k.P:x[k.P:y[a]]":                      field("k.P", "x", field("k.P", "y", a)),
		"match S(a){A x -> x}":                 match("S", "A x", a, name("x")),
		"match k.S(a or b) {A x -> a or b, B y -> if a then b else c, A x -> 1}":            match("k.S", "A x B y A x", op(api.Or, a, b), op(api.Or, a, b), choice(a, b, c), num(1)),
		"match S(match S(a) {A x -> b}) {A x -> match S(c) {A x -> d, B y -> a}, B y -> b}": match("S", "A x B y", match("S", "A x", a, b), match("S", "A x B y", c, d, a), b),
		"1 + match S(a) {A x -> x} * 2":        op(api.Add, num(1), op(api.Mul, match("S", "A x", a, name("x")), num(2))),
		"List(Int)[]":                          list(named("Int")),
		"List(Bool)[true]":                     list(named("Bool"), term{Kind: api.NBool, N: 1}),
		"List(List(k.P))[List(k.P)[], a or b]": list(listOf(named("k.P")), list(named("k.P")), op(api.Or, a, b)),
		"len List(P)[a, b]":                    op(api.Len, list(named("P"), a, b)),
	}
}

func TestExpressions(t *testing.T) {
	for s, want := range expressions() {
		if got := body(t, s); !sameTerm(got, want) {
			t.Errorf("P6.2: %q is read as %v, not as %v", s, got, want)
		}
		f := form{Kind: api.KFun, Name: "f", Result: named("Int"), Body: want}
		if got := syntax.Tokens(f); !slices.Equal(got, texts("fun f () Int = "+s)) {
			t.Errorf("P6.1: the tokens of %q are %q", s, got)
		}
	}
}

func TestForms(t *testing.T) {
	integer, p := named("Int"), named("k.P")
	for _, x := range []struct {
		s    string
		want form
	}{
		{"rec P ()", form{Kind: api.KRec, Name: "P"}},
		{"rec P (x Int)", form{Kind: api.KRec, Name: "P", Slots: fields("x", integer, 0)}},
		{"rec P (x Int, y k.P, x List(List(Bool)))", form{Kind: api.KRec, Name: "P", Slots: fields("x", integer, 0, "y", p, 0, "x", listOf(listOf(named("Bool"))), 0)}},
		{"case S (A Int, B P)", form{Kind: api.KCase, Name: "S", Slots: fields("A", integer, 0, "B", named("P"), 0)}},
		{"case S ()", form{Kind: api.KCase, Name: "S"}},
		{"fun f () Int = a", form{Kind: api.KFun, Name: "f", Result: integer, Body: a}},
		{"fun f (x Int, y k.P) List(k.P) = a or b", form{Kind: api.KFun, Name: "f", Slots: fields("x", integer, 0, "y", p, 0), Result: listOf(p), Body: op(api.Or, a, b)}},
		{"on h (s P, e S) P = if a then b else c", form{Kind: api.KOn, Name: "h", Slots: fields("s", named("P"), 0, "e", named("S"), 0), Result: named("P"), Body: choice(a, b, c)}},
		{"conv v (s P) Bool = true", form{Kind: api.KConv, Name: "v", Slots: fields("s", named("P"), 0), Result: named("Bool"), Body: term{Kind: api.NBool, N: 1}}},
		{"test t () Int = 0", form{Kind: api.KTest, Name: "t", Result: integer}},
		{"test t (x Int 0) Int = x", form{Kind: api.KTest, Name: "t", Slots: fields("x", integer, 0), Result: integer, Body: name("x")}},
		{"test t (x Int 2, y List(k.P) 1099511627776, z P 10) k.P = x", form{Kind: api.KTest, Name: "t", Slots: fields("x", integer, 2, "y", listOf(p), api.MaxInt, "z", named("P"), 10), Result: p, Body: name("x")}},
	} {
		read := reads(t, "module m use k "+x.s)
		want := syntax.Source{Name: "m", Uses: []string{"k"}, Defs: []form{x.want}}
		if !syntax.Same(read, want) {
			t.Errorf("P6.2: %q is read as %v", x.s, read)
		}
		if got := syntax.Tokens(x.want); !slices.Equal(got, texts(x.s)) {
			t.Errorf("P6.1: the tokens of %q are %q", x.s, got)
		}
		twice := reads(t, "module m "+x.s+"\n"+x.s)
		if !syntax.Same(twice, syntax.Source{Name: "m", Defs: []form{x.want, x.want}}) {
			t.Errorf("P6.2: %q twice is read as %v", x.s, twice)
		}
	}
}

func TestHeads(t *testing.T) {
	for s, want := range map[string]syntax.Source{
		"module m":                   {Name: "m"},
		"module m use k":             {Name: "m", Uses: []string{"k"}},
		"module m use m use k use m": {Name: "m", Uses: []string{"m", "k", "m"}},
	} {
		if read := reads(t, s); !syntax.Same(read, want) {
			t.Errorf("P6.2: %q is read as %v", s, read)
		}
		want.Defs, want.Head, want.End = []form{{Kind: -1}}, []string{"x"}, "?"
		if got := syntax.Heads(want); !slices.Equal(got, texts(s)) {
			t.Errorf("P6.1: the tokens of the head of %q are %q", s, got)
		}
	}
	for _, s := range []string{"", "if", "a.b", "1", "a ", "Int", "module", "abcdefghijklmnopq", "ä"} {
		for _, x := range []syntax.Source{{Name: s}, {Name: s, Uses: []string{"k"}}, {Name: "m", Uses: []string{s}}, {Name: "m", Uses: []string{"k", s}}, {Name: "m", Uses: []string{s, "k"}}} {
			if got := syntax.Heads(x); len(got) != 0 {
				t.Errorf("P6.1: the tokens of the head of %v are %q", x, got)
			}
		}
	}
}

// TestErrors has texts with a "!" before the token at which they stop, or at their end.
func TestErrors(t *testing.T) {
	for _, x := range []string{
		"!", "  # no token!", "!m", "!use k", "!Module m", "module !", "module !if", "module !1", "module !module m", "module m !m", "module m !, k",
		"module m!.k", "module m use!", "module m use !Int", "module m use k!.j", "module m use k !, j", "module m use k !k use j", "module m !1", "module m !(",
		"module m !fn f", "module m !let", "module m !true", "module m rec P () !use k", "module m rec P () !module m",
		"module m rec!", "module m rec !1", "module m rec !rec P ()", "module m rec P!", "module m rec P !{", "module m rec P!.Q ()", "module m rec P (!", "module m rec P (!, x Int)",
		"module m rec P (x!)", "module m rec P (x !, y Int)", "module m rec P (x Int !y Int)", "module m rec P (x Int,!)", "module m rec P (x Int, !1)", "module m rec P (x !1)", "module m rec P (x Int !2)",
		"module m rec P (x Int) !Int", "module m rec P (x Int) != 1", "module m rec P (x Int!", "module m rec P (x List !Int)", "module m rec P (x List(!))", "module m rec P (x List(Int!, Int))",
		"module m rec P (x List(Int)!", "module m rec P (x List(List !Int))", "module m rec P (x k.!)", "module m rec P (x k.!Int)", "module m rec P (x k.P!.Q)", "module m rec P (x Int!.y)", "module m rec P (x !if)", "module m rec P (!in Int)",
		"module m case S (A !-1)", "module m case S (A Int) !(", "module m case S (A Int !1)",
		"module m fun f (a Int !1) Int = a", "module m fun f (a Int)!", "module m fun f (a Int) != a", "module m fun f (a Int) Int !a", "module m fun f (a Int) Int =!", "module m fun f (a Int) Int !== a", "module m fun f (a Int) Int = a !a",
		"module m on h () Int !-> 1", "module m conv f (a Int !1) Int = a", "module m fun !on () Int = 1",
		"module m test t (a Int!) Int = a", "module m test t (a Int !, b Int 1) Int = a", "module m test t (a Int !-1) Int = a", "module m test t (a Int !01) Int = a", "module m test t (a Int !1099511627777) Int = a",
		"module m test t (a Int !9999999999999999) Int = a", "module m test t (a Int !00) Int = a", "module m test t (a Int 2 !2) Int = a", "module m test t (!2) Int = a", "module m test t (a !2) Int = a", "module m test t (a Int !b) Int = a",
	} {
		at := strings.Index(x, "!")
		stops(t, strings.Replace(x, "!", "", 1), at)
	}
}

func TestExpressionErrors(t *testing.T) {
	for _, x := range []string{
		"!", "!)", "!,", "!=", "!->", "!<", "!==", "!+ 1", "!* 1", "!and a", "!or a", "!join a", "!then", "!do", "!in", "!over", "!fun", "!Int", "!Bool", "!use", "!{", "![", "!.", "!: a",
		"if!", "if a!", "if a !else b", "if a then!", "if a then b!", "if a then b !then c", "if a then b else!", "if a then b else c !else d", "if a !, b",
		"let!", "let !1 = a in b", "let !if = a in b", "let x!", "let x !== a in b", "let x =!", "let x = a!", "let x = a !, y = b in c", "let x = a in!", "let x!.y = a in b", "let !(x) = a in b",
		"fold!", "fold x!", "fold x !y = a over b do c", "fold x,!", "fold x, !1 = a over b do c", "fold x, y!", "fold x, y !over b do c", "fold x, y = a!", "fold x, y = a !do c", "fold x, y = a over!", "fold x, y = a over b!", "fold x, y = a over b !over c", "fold x, y = a over b do!", "fold !-1, y = a over b do c", "fold x, x!, y = a over b do c",
		"a or!", "a or !or b", "a and!", "a <!", "a < b !< c", "a < b !== c", "a == b !== c", "a == b !< c", "a < b + c !< d", "a ==!", "a == !== b", "a ==!= b", "a join!", "a +!", "a + !+ b", "a -!", "a - !* b", "a *!", "a /!", "a %!", "a % !/ b",
		"not!", "not !and a", "len!", "len !+ a", "a !not b", "a !len b", "1 + !if a then b else c", "a or !let x = a in b", "not !fold x, y = a over b do c", "not !if a then b else c", "- !- 1", "a + !let x = 1 in x",
		"-!", "-!0", "- !0", "-!00", "-!a", "-!(1)", "-!-1", "-!1099511627777", "-!01", "!1099511627777", "!01", "!00", "!007", "!9999999999999999", "1 !2", "1!a", "a !1", "1!(2)", "1!.a",
		"true !true", "true!()", "false!{}", "if (a) !b",
		"a.!", "a.!1", "a.!if", "a.b!", "a.b !+ c", "a.b!.c()", "a.b !c", "a.b!,", "(a.b!)", "a.b![c]", "a!]",
		"g(!", "g(!, a)", "g(a!", "g(a !b)", "g(a,!)", "g(a,!", "g(a)!(b)", "g(a)!.b", "g(a)!:b(c)", "g(a)![b]", "g(a!]", "g(!=)", "g(a != b)", "g(a!}",
		"P{!", "P{!1}", "P{x!}", "P{x !a}", "P{x =!}", "P{x = a!", "P{x = a !y = b}", "P{x = a,!}", "P{!, x = a}", "P{x!: a}", "P{x !== a}", "P{x!.y = a}", "P{!(x) = a}", "P{x = a!)", "P{x = a}!{", "P{x = a -!}", "P{x = a - y != b}",
		"S:!", "S:!1(a)", "S:!if(a)", "S:A!", "S:A!{a}", "S:A!.B(a)", "S:A(!)", "S:A(!", "S:A(a!", "S:A(a!, b)", "S:A(a!]", "P:x[!]", "P:x[!", "P:x[a!", "P:x[a!, b]", "P:x[a!)", "S:A !a", "S:!:A(a)", "k.!:A(a)", "!:A(a)", "S:A(a)!(b)", "P:x[p]![q]", "P:x[p]!:y[q]", "k:S!.A(a)",
		"match!", "match !(a) {A x -> b}", "match !1", "match S!", "match S !{A x -> b}", "match S.!(a)", "match S(!)", "match S(a!", "match S(a!, b) {A x -> b}", "match S(a)!", "match S(a) !A x -> b", "match S(a) {!}", "match S(a) {!", "match S(a) {A!", "match S(a) {A !-> b}", "match S(a) {A x!", "match S(a) {A x != b}", "match S(a) {A x !y", "match S(a) {A x ->!", "match S(a) {A x ->!}", "match S(a) {A x -> b!", "match S(a) {A x -> b,!}", "match S(a) {A x -> b !B y -> c}", "match S(a) {A !1 -> b}", "match S(a) {!1 x -> b}", "match S(a) {A!(x) -> b}", "match S!:A(a) {A x -> b}", "match S(a) {k!.A x -> b}", "match S(a) {A x -> b}!(", "match S(a) {A x -> b!)", "match S(a) {A x !== b}",
		"List!", "List !Int", "List(!)", "List(!", "List(Int!", "List(Int!, Int)", "List(Int)!", "List(Int)!(a)", "List(Int)[!", "List(Int)[!, a]", "List(Int)[a!", "List(Int)[a!)", "List(Int)[a,!]", "List(Int)[a,!", "List(Int)[a]![b]", "List(!1)[]", "List(List!)[]", "List(Int)[a !b]", "List!.a", "List![a]", "List(Int)!{}", "!Int(a)", "List(k.!)",
		"(!", "(!)", "(a!", "(a!, b)", "(a!]", "(a)!(b)", "(a + b) * (c + d!", "((a + b) * c!", "(a + b)!:c(d)", "(a + b)!.c", "(a + b) !c", "(a + b)![0]",
	} {
		x = head + x
		at := strings.Index(x, "!")
		if at < 0 {
			t.Fatalf("the text %q has no mark", x)
		}
		stops(t, strings.Replace(x, "!", "", 1), at)
	}
}

// TestNames has keywords and other tokens where a name must stand.
func TestNames(t *testing.T) {
	bad := strings.Fields("module use rec case fun on test conv true false not and or if then else let in match fold over do len join List Int Bool 1 0 ( ) { } [ ] , : . = == -> + - * / % <")
	for _, place := range []string{
		"module @", "module m use @", "module m use k use @ rec P ()", "module m rec @ ()", "module m case @ ()", "module m fun @ () Int = a", "module m on @ () Int = a", "module m test @ () Int = a", "module m conv @ () Int = a",
		"module m rec P (x Int, @ Int)", "module m test t (x Int 1, @ Int 1) Int = a", "module m rec P (x k.@)", "module m fun f () k.@ = a", "module m fun f () List(k.@) = a",
		head + "let @ = a in b", head + "fold @, x = a over b do c", head + "fold x, @ = a over b do c", head + "P{x = a, @ = b}", head + "S:@(a)", head + "P:@[a]", head + "k.@(a)", head + "k.@{}", head + "k.@:A(a)",
		head + "match @(a) {A x -> b}", head + "match k.@(a) {A x -> b}", head + "match S(a) {@ x -> b}", head + "match S(a) {A @ -> b}", head + "match S(a) {A x -> b, @ y -> c}", head + "match S(a) {A x -> b, B @ -> c}",
	} {
		at := strings.Index(place, "@")
		for _, s := range bad {
			stops(t, strings.Replace(place, "@", s, 1), at)
		}
		for _, s := range strings.Fields("g Iff list int bool iF ifx modules abcdefghijklmnop A9 a b c x y P S") {
			reads(t, strings.Replace(place, "@", s, 1))
		}
	}
	for _, s := range bad {
		if s != ")" {
			stops(t, "module m rec P ("+s+" Int)", len("module m rec P ("))
		}
		if s != "}" {
			stops(t, head+"P{"+s+" = a}", len(head)+2)
		}
	}
}

func TestNumerals(t *testing.T) {
	most := func(s string) string { return "module m test t (a Int " + s + ") Int = 0" }
	for s, n := range map[string]int{"0": 0, "1": 1, "9": 9, "10": 10, "1099511627775": 1<<40 - 1, "1099511627776": 1 << 40} {
		if got := body(t, s); !sameTerm(got, num(n)) {
			t.Errorf("P6.2: %s is read as %v", s, got)
		}
		if got := reads(t, most(s)).Defs[0].Slots[0].Most; got != n {
			t.Errorf("P6.2: %s is read as %d of a slot", s, got)
		}
		if n == 0 {
			stops(t, head+"-"+s, len(head)+1)
		} else if got := body(t, "-"+s); !sameTerm(got, num(-n)) {
			t.Errorf("P6.2: -%s is read as %v", s, got)
		}
		stops(t, most("-"+s), strings.Index(most("-"), "-"))
	}
	for _, s := range []string{"00", "01", "0000000000000000", "0000000000000001", "09", "1099511627777", "1099511627780", "2199023255552", "9999999999999999", "01099511627776"} {
		stops(t, head+s, len(head))
		stops(t, head+"-"+s, len(head)+1)
		stops(t, head+"a - - "+s, len(head)+6)
		stops(t, most(s), strings.Index(most("@"), "@"))
	}
	stops(t, head+"10000000000000000", len(head))
	stops(t, head+"? 10000000000000000", len(head))
}

// lines has the operators of the lines of the grammar, from the first one on; those of the last line have one operand.
var lines = [][]string{{"or"}, {"and"}, {"<", "=="}, {"join"}, {"+", "-"}, {"*", "/", "%"}, {"not", "len"}}

func TestParenthesesOfOperators(t *testing.T) {
	ops := map[string]int{"or": api.Or, "and": api.And, "<": api.Less, "==": api.Same, "join": api.Join, "+": api.Add, "-": api.Sub, "*": api.Mul, "/": api.Div, "%": api.Rem, "not": api.Not, "len": api.Len}
	check := func(left, inner, right string, needed bool, want term) {
		s := left + "(" + inner + ")" + right
		if needed {
			if got := body(t, s); !sameTerm(got, want) {
				t.Errorf("P6.2: %q is read as %v", s, got)
			}
			if read, at := syntax.Parse(head + left + inner + right); at == -1 && sameTerm(read.Defs[0].Body, want) {
				t.Errorf("P6.1: the parentheses of %q are not necessary", s)
			}
			// A second pair is never necessary.
			stops(t, head+left+"(("+inner+"))"+right, len(head+left)+1)
			return
		}
		stops(t, head+s, len(head+left))
		if got := body(t, left+inner+right); !sameTerm(got, want) {
			t.Errorf("P6.2: %q is read without parentheses as %v", s, got)
		}
	}
	for i, outers := range lines {
		for _, outer := range outers {
			unary := i == len(lines)-1
			for j, inners := range lines {
				for _, inner := range inners {
					s, kid := "a "+inner+" b", op(ops[inner], a, b)
					if j == len(lines)-1 {
						s, kid = inner+" a", op(ops[inner], a)
					}
					if unary {
						check(outer+" ", s, "", j < i, op(ops[outer], kid))
						continue
					}
					check("", s, " "+outer+" c", j < i || i == j && i == 2, op(ops[outer], kid, c))
					check("c "+outer+" ", s, "", j <= i, op(ops[outer], c, kid))
				}
			}
			for s, kid := range map[string]term{"if a then b else c": choice(a, b, c), "let x = a in b": let("x", a, b), "fold x, y = a over b do c": fold("x", "y", b, a, c)} {
				if unary {
					check(outer+" ", s, "", true, op(ops[outer], kid))
					continue
				}
				check("", s, " "+outer+" c", true, op(ops[outer], kid, c))
				check("c "+outer+" ", s, "", true, op(ops[outer], c, kid))
			}
			for _, s := range []string{"a", "0", "-1", "true", "g()", "k.g(a + b)", "P{x = a or b}", "S:A(a)", "P:x[a]", "match S(a) {A x -> b or c}", "List(Int)[a or b]"} {
				kid := body(t, s)
				if unary {
					check(outer+" ", s, "", false, op(ops[outer], kid))
					continue
				}
				check("", s, " "+outer+" c", false, op(ops[outer], kid, c))
				check("c "+outer+" ", s, "", false, op(ops[outer], c, kid))
			}
		}
	}
}

// TestParenthesesElsewhere has parentheses where the grammar requires an expression of the first line.
func TestParenthesesElsewhere(t *testing.T) {
	for _, place := range []string{
		"@", "if @ then b else c", "if a then @ else c", "if a then b else @", "let x = @ in b", "let x = a in @", "fold x, y = @ over b do c", "fold x, y = a over @ do c", "fold x, y = a over b do @",
		"g(@)", "g(a, @)", "g(@, a)", "k.P{x = @}", "P{x = a, y = @}", "S:A(@)", "P:x[@]", "match S(@) {A x -> b}", "match S(a) {A x -> @}", "match S(a) {A x -> b, B y -> @}", "List(Int)[@]", "List(Int)[a, @, b]",
	} {
		for s := range expressions() {
			// The first token that differs is behind the parentheses with which the expression itself begins.
			at := strings.Index(place, "@")
			stops(t, head+strings.Replace(place, "@", "("+s+")", 1), len(head)+at+len(s)-len(strings.TrimLeft(s, "(")))
			body(t, strings.Replace(place, "@", s, 1))
		}
	}
	for s, at := range map[string]int{"(a)": 0, "((a))": 0, "(((a)))": 0, "((a + b)) * c": 1, "(((a + b))) * c": 1, "((a + b) * c)": 1, "((a + b)) * (c)": 1, "(a + b) * (c)": 10, "a + (b + (c))": 9, "(a) + (b)": 0, "f((a), (b))": 2, "(f)": 0, "(f(a))": 0, "(-1)": 0, "- 1 + (2)": 6, "(List(Int)[])": 0} {
		stops(t, head+s, len(head)+at)
	}
	// An error further back comes first, in whatever form it stands.
	stops(t, head+"(a) fun g () Int = (b", len(head)+len("(a) fun g () Int = (b"))
	stops(t, head+"(a) fun g () Int = b c", len(head)+len("(a) fun g () Int = b "))
	stops(t, head+"(a) ?", len(head)+4)
	stops(t, head+"a b ?", len(head)+4)
	stops(t, head+"a fun g () Int = (b) fun h () Int = (c)", len(head)+len("a fun g () Int = "))
}

func TestLayouts(t *testing.T) {
	type layouts struct {
		head []string
		defs [][]string
		end  string
	}
	for s, want := range map[string]layouts{
		"module m":                       {[]string{"", " ", ""}, nil, ""},
		"module m\n":                     {[]string{"", " ", "\n"}, nil, ""},
		" module  m \n \n":               {[]string{" ", "  ", " \n"}, nil, " \n"},
		"#\nmodule#\nm#":                 {[]string{"#\n", "#\n", "#"}, nil, ""},
		"module m # a\n# b\n":            {[]string{"", " ", " # a\n"}, nil, "# b\n"},
		"module m # a # b\n\n# c":        {[]string{"", " ", " # a # b\n"}, nil, "\n# c"},
		"module m use k\n\n use j  #":    {[]string{"", " ", " ", " ", "\n\n ", " ", "  #"}, nil, ""},
		"module m rec P()":               {[]string{"", " ", " "}, [][]string{{"", " ", "", "", ""}}, ""},
		"module m\nrec P()\n":            {[]string{"", " ", "\n"}, [][]string{{"", " ", "", "", "\n"}}, ""},
		"module m\n\nrec P()\n\n":        {[]string{"", " ", "\n"}, [][]string{{"\n", " ", "", "", "\n"}}, "\n"},
		"module m #\n#\n rec P()#\n#\n ": {[]string{"", " ", " #\n"}, [][]string{{"#\n ", " ", "", "", "#\n"}}, "#\n "},
		"module m rec P(a Int)case S (\n)#x\n#y\ncase T\n()": {[]string{"", " ", " "}, [][]string{
			{"", " ", "", "", " ", "", ""}, {"", " ", " ", "\n", "#x\n"}, {"#y\n", " ", "\n", "", ""}}, ""},
		"module m fun f()Int=a\n \nfun g() Int = b #\n\n\n": {[]string{"", " ", " "}, [][]string{
			{"", " ", "", "", "", "", "", "\n"}, {" \n", " ", "", "", " ", " ", " ", " #\n"}}, "\n\n"},
	} {
		read := reads(t, s)
		if !slices.Equal(read.Head, want.head) || read.End != want.end || len(read.Defs) != len(want.defs) {
			t.Errorf("P6.2: %q is read with the head %q, %d forms and the end %q", s, read.Head, len(read.Defs), read.End)
			continue
		}
		for i, f := range read.Defs {
			if !slices.Equal(f.Layout, want.defs[i]) {
				t.Errorf("P6.2: of %q the form %d is read with the layout %q", s, i, f.Layout)
			}
		}
	}
}

func TestLongTexts(t *testing.T) {
	pad := func(s, with string, size int) string { return s + strings.Repeat(with, size)[:size-len(s)] }
	deep := func(before, middle, after string, size int) string {
		n := (size - len(middle)) / len(before+after)
		return strings.Repeat(before, n) + middle + strings.Repeat(after, n)
	}
	free := 8192 - len(head)
	texts := []string{
		pad("module m ", "use k ", 8187), pad("module m#", "x?", 8192), pad("module m", "\n", 8192), pad("module m ", " ", 8192), pad("module m\n", "#\n", 8192),
		head + pad("a", " + a", free/4*4-3),
		head + deep("not ", "a", "", free), head + deep("not(a+", "b", ")", free), head + deep("g(", "", ")", free), head + deep("f(1,", "2", ")", free), head + deep("List(Int)[", "", "]", free), head + deep("P{x=", "a", "}", free),
		head + deep("S:A(", "a", ")", free), head + deep("P:x[", "a", "]", free), head + deep("if a then ", "b", " else c", free), head + deep("let x = ", "a", " in b", free), head + deep("let x = a in ", "b", "", free),
		head + deep("match S(a) {A x -> ", "b", "}", free), head + deep("a*(b+", "c", ")", free), "module m fun f () " + deep("List(", "Int", ")", free-20) + " = a",
		"module m" + strings.Repeat("\nrec P()", 8184/8), "module m" + strings.Repeat(" fun f()Int=1", 8184/13),
	}
	for _, s := range texts {
		if len(s) > 8192 {
			t.Fatalf("a text of %d bytes", len(s))
		}
		reads(t, s)
		full := s + strings.Repeat(" ", 8192-len(s))
		read := reads(t, full)
		stops(t, full+" ", 8192)
		stops(t, full+"\n", 8192)
		read.End += " "
		if n := len(read.Defs); n == 0 && !strings.Contains(read.Head[len(read.Head)-1], "\n") || n > 0 && !strings.Contains(read.Defs[n-1].Layout[len(read.Defs[n-1].Layout)-1], "\n") {
			continue // the further blank does not belong to End
		}
		if syntax.Valid(read) {
			t.Errorf("P6.3: a source with a text of 8193 bytes is valid")
		}
	}
	for _, s := range []string{deep("(", "a", ")", free), deep("((", "a", "))", free)} {
		stops(t, head+s, len(head))
	}
	stops(t, head+strings.Repeat("(", free), 8192)
	stops(t, head+strings.Repeat("not ", free/4), len(head)+free/4*4)
	stops(t, strings.Repeat("?", 8193), 8192)
	stops(t, strings.Repeat("a", 100000), 8192)
}
