package print_test

import (
	"math"
	"reflect"
	"slices"
	"strings"
	"testing"

	"splicery/api"
	"splicery/lex"
	"splicery/print"
	"splicery/syntax"
)

// The functions of the package have these types.
var (
	_ func(syntax.Form) string                 = print.Def
	_ func(syntax.Source) string               = print.Module
	_ func(syntax.Source) syntax.Source        = print.Plain
	_ func(layout, old, now []string) []string = print.Kept
)

type (
	term   = syntax.Term
	word   = syntax.Word
	form   = syntax.Form
	source = syntax.Source
)

var (
	whole = word{Name: "Int"}
	a     = term{Kind: api.NVar, Name: "a"}

	// small is the form with the fewest tokens: rec P ( ).
	small = form{Kind: api.KRec, Name: "P"}

	// sample has the tokens fun f ( a Int ) Int = a.
	sample = form{Kind: api.KFun, Name: "f", Slots: []syntax.Field{{Name: "a", Type: whole}}, Result: whole, Body: a}
)

const sampleText = "fun f (a Int) Int = a\n"

// with returns a form with a layout.
func with(f form, layout ...string) form {
	f.Layout = layout
	return f
}

// without returns forms without tokens.
func without() []form {
	l := []form{
		{}, {Kind: -1}, {Kind: -1, Name: "P"}, {Kind: api.KConv + 1, Name: "P"}, {Kind: math.MinInt, Name: "P"}, {Kind: math.MaxInt, Name: "P"},
		{Kind: api.KRec, Name: "if"}, {Kind: api.KRec, Name: "1"}, {Kind: api.KRec, Name: "k.P"}, {Kind: api.KRec, Name: "P "}, {Kind: api.KRec, Name: "abcdefghijklmnopq"},
		{Kind: api.KFun, Name: "f"}, {Kind: api.KFun, Name: "f", Result: whole, Body: term{Kind: -1}}, {Kind: api.KRec, Name: "P", Result: whole},
		{Kind: api.KRec, Name: "P", Slots: []syntax.Field{{Name: "x"}}}, {Kind: api.KRec, Name: "P", Slots: []syntax.Field{{Name: "x", Type: whole, Most: 1}}},
	}
	for _, f := range slices.Clone(l) {
		// These layouts fit no tokens, and those that one might expect.
		l = append(l, with(f, "x"), with(f, " "), with(f, ""), with(f, "", " ", " ", "", "\n"), with(f, make([]string, 10)...))
	}
	return l
}

func TestDef(t *testing.T) {
	for _, x := range []struct {
		f    form
		want string
	}{
		{small, "rec P ()\n"},
		{sample, sampleText},
		{form{Kind: api.KCase, Name: "S", Slots: []syntax.Field{{Name: "A", Type: whole}, {Name: "B", Type: word{Name: "k.P"}}}}, "case S (A Int, B k.P)\n"},
		{form{Kind: api.KTest, Name: "t", Slots: []syntax.Field{{Name: "a", Type: whole, Most: 3}}, Result: word{Name: "List", Kids: []word{whole}}, Body: term{Kind: api.NList, Type: whole, Kids: []term{{Kind: api.NInt, N: -3}}}}, "test t (a Int 3) List (Int) = List (Int) [- 3]\n"},
		{form{Kind: api.KConv, Name: "v", Result: whole, Body: term{Kind: api.NOp, N: api.Mul, Kids: []term{{Kind: api.NOp, N: api.Add, Kids: []term{a, a}}, a}}}, "conv v () Int = (a + a) * a\n"},
		// Layouts that do not fit
		{with(small, []string{}...), "rec P ()\n"},
		{with(small, "x"), "rec P ()\n"},
		{with(small, "", "  ", "", ""), "rec P ()\n"},
		{with(small, "", "  ", "", "", "", ""), "rec P ()\n"},
		{with(sample, "", " ", " ", "", " ", "", " ", " ", " "), sampleText},
		{with(sample, "", "  ", " ", "", " ", "", " ", " ", " ", "", "#\n"), sampleText},
		{with(sample, make([]string, 1000)...), sampleText},
		// Layouts that fit
		{with(small, "", "", "", "", ""), "recP()"},
		{with(small, "", " ", "", "", ""), "rec P()"},
		{with(small, "\n", "  ", " # x\n", " ", " # y"), "\nrec  P # x\n( ) # y"},
		{with(small, "1", "2", "3", "4", "5"), "1rec2P3(4)5"},
		{with(small, " ? \t", "rec", "P", ")", "\xff\x00"), " ? \trecrecPP())\xff\x00"},
		{with(sample, "", " ", " ", "", " ", "", " ", " ", "  ", " # end\n"), "fun f (a Int) Int =  a # end\n"},
		{with(sample, "", " ", " ", "", " ", "", " ", " ", " ", ""), "fun f (a Int) Int = a"},
	} {
		if got := print.Def(x.f); got != x.want {
			t.Errorf("P7.1: Def of %+v is %q, not %q", x.f, got, x.want)
		}
	}
	for _, f := range without() {
		if got := print.Def(f); got != "" {
			t.Errorf("P7.1: Def of %+v, which has no tokens, is %q", f, got)
		}
	}
}

func TestModule(t *testing.T) {
	own := with(sample, "", " ", " ", "", " ", "", " ", " ", "  ", " # end\n")
	for _, x := range []struct {
		s    source
		want string
	}{
		{source{Name: "m"}, "module m\n"},
		{source{Name: "m", End: "\n"}, "module m\n\n"},
		{source{Name: "m", End: " # x"}, "module m\n # x"},
		{source{Name: "m", End: "? 1"}, "module m\n? 1"},
		{source{Name: "m", Uses: []string{"k", "k", "m"}}, "module m use k use k use m\n"},
		// The head
		{source{Name: "m", Head: []string{}}, "module m\n"},
		{source{Name: "m", Head: []string{"x"}}, "module m\n"},
		{source{Name: "m", Head: []string{"x", "y"}}, "module m\n"},
		{source{Name: "m", Head: []string{"#\n", "  ", "", ""}}, "module m\n"},
		{source{Name: "m", Head: []string{"#\n", "  ", ""}}, "#\nmodule  m"},
		{source{Name: "m", Head: []string{"", "", ""}, End: "\n"}, "modulem\n"},
		{source{Name: "m", Uses: []string{"k"}, Head: []string{"", " ", "\n\n"}}, "module m use k\n"},
		{source{Name: "m", Uses: []string{"k"}, Head: []string{"", " ", "\n", "\n", " # x\n"}}, "module m\nuse\nk # x\n"},
		{source{Name: "m", Uses: []string{"k"}, Head: []string{"", " ", "\n", "\n", " # x\n", ""}}, "module m use k\n"},
		// The forms
		{source{Name: "m", Defs: []form{small}}, "module m\nrec P ()\n"},
		{source{Name: "m", Defs: []form{small, small, sample, small}}, "module m\nrec P ()\nrec P ()\n" + sampleText + "rec P ()\n"},
		{source{Name: "m", Defs: []form{own, small, own}, End: "\n"}, "module m\nfun f (a Int) Int =  a # end\nrec P ()\nfun f (a Int) Int =  a # end\n\n"},
		{source{Name: "m", Head: []string{"\n", " ", " "}, Defs: []form{with(small, "x", " ", "", "", "y"), own}, End: "z"}, "\nmodule m xrec P()yfun f (a Int) Int =  a # end\nz"},
		{source{Name: "m", Head: []string{"", " ", ""}, Defs: []form{with(small, "", " ", "", "", ""), sample}}, "module mrec P()" + sampleText},
		{source{Name: "m", Defs: []form{with(small, "", " ", "", ""), with(own, "")}}, "module m\nrec P ()\n" + sampleText},
	} {
		if got := print.Module(x.s); got != x.want {
			t.Errorf("P7.2: Module of %+v is %q, not %q", x.s, got, x.want)
		}
	}
}

// TestModuleWithout has heads and forms without tokens.
func TestModuleWithout(t *testing.T) {
	nothing := func(s source) {
		for _, end := range []string{"", "\n", "# x"} {
			s.End = end
			if got := print.Module(s); got != "" {
				t.Errorf("P7.2: Module of %+v is %q", s, got)
			}
		}
	}
	for _, f := range without() {
		for _, l := range [][]form{{f}, {f, f}, {f, sample}, {sample, f}, {sample, f, small}, {small, sample, f}, {f, small, f}} {
			nothing(source{Name: "m", Defs: l})
			nothing(source{Name: "m", Head: []string{"", " ", "\n"}, Defs: l})
			nothing(source{Defs: l})
		}
	}
	for _, s := range []source{{}, {Name: "if"}, {Name: "1"}, {Name: "m "}, {Name: "k.m"}, {Name: "abcdefghijklmnopq"}, {Name: "m", Uses: []string{""}}, {Name: "m", Uses: []string{"k", "use"}}, {Name: "m", Uses: []string{"1", "k"}}, {Uses: []string{"k"}}} {
		for _, head := range [][]string{nil, {"x"}, {""}, {"", " ", "\n"}, {"", " ", " ", " ", "\n"}} {
			s.Head = head
			s.Defs = nil
			nothing(s)
			s.Defs = []form{small, sample}
			nothing(s)
		}
	}
}

// rich returns a source in which each list has elements.
func rich() source {
	kid := func() term {
		return term{Kind: api.NMatch, N: 1, Name: "S", Field: "A", Type: word{Name: "List", Kids: []word{{Name: "P", Kids: []word{whole}}}}, Names: []string{"A", "x"}, Kids: []term{{Kind: api.NVar, Name: "a", Names: []string{"y"}}, {Type: word{Kids: []word{{}}}}}}
	}
	full := func() form {
		return form{Kind: api.KTest, Name: "t", Slots: []syntax.Field{{Name: "x", Type: word{Name: "List", Kids: []word{whole}}, Most: 2}, {Name: "y"}}, Result: word{Name: "List", Kids: []word{whole, {}}}, Body: term{Kind: api.NIf, Kids: []term{kid(), kid(), kid()}}, Layout: []string{"x", "y"}}
	}
	return source{Name: "m", Uses: []string{"k", "j"}, Defs: []form{full(), {Kind: -1, Layout: []string{""}}, full()}, Head: []string{"a", "b", ""}, End: "end"}
}

// plainRich is rich without its layout.
func plainRich() source {
	s := rich()
	s.Head, s.End = nil, ""
	for i := range s.Defs {
		s.Defs[i].Layout = nil
	}
	return s
}

func TestPlain(t *testing.T) {
	if got := print.Plain(rich()); !reflect.DeepEqual(got, plainRich()) {
		t.Errorf("P7.3: Plain returns %+v", got)
	}
	for _, s := range []source{{}, {Head: []string{"x"}, End: "y"}, {Name: "m", Uses: []string{}, Defs: []form{}, Head: []string{}}, {Name: "m", Defs: []form{{}}}, {Defs: []form{with(small, "x"), with(sample, ""), small}}} {
		got := print.Plain(s)
		if !syntax.Same(got, s) || len(got.Head) > 0 || got.End != "" {
			t.Errorf("P7.3: Plain of %+v is %+v", s, got)
		}
		for _, f := range got.Defs {
			if len(f.Layout) > 0 {
				t.Errorf("P7.3: Plain of %+v is %+v", s, got)
			}
		}
	}
	deep := a
	w := whole
	for range 1 << 16 {
		deep, w = term{Kind: api.NOp, N: api.Not, Kids: []term{deep}}, word{Name: "List", Kids: []word{w}}
	}
	s := source{Name: "m", Defs: []form{{Kind: api.KFun, Name: "f", Result: w, Body: deep}}}
	if got := print.Plain(s); !syntax.Same(got, s) {
		t.Errorf("P7.3: Plain of a deep source is another one")
	}
	if got, want := len(print.Module(s)), len("module m\n")+len("fun f () ")+len("List (")<<16+len("Int")+1<<16+len(" = ")+len("not ")<<16+len("a\n"); got != want {
		t.Errorf("P7.2: the text of a deep source has %d bytes, not %d", got, want)
	}
}

// spoil changes all strings and numbers of a value, and those in all the memory of its lists.
func spoil(v reflect.Value) {
	switch v.Kind() {
	case reflect.Struct:
		for i := range v.NumField() {
			spoil(v.Field(i))
		}
	case reflect.Slice:
		v = v.Slice(0, v.Cap())
		for i := range v.Len() {
			spoil(v.Index(i))
		}
	case reflect.String:
		v.SetString(v.String() + "!")
	case reflect.Int:
		v.SetInt(v.Int() + 1)
	}
}

func TestPlainMemory(t *testing.T) {
	s := rich()
	first, second := print.Plain(s), print.Plain(s)
	spoil(reflect.ValueOf(&first).Elem())
	if !reflect.DeepEqual(s, rich()) || !reflect.DeepEqual(second, plainRich()) {
		t.Errorf("P7.3: a change of the result changes the source or another result")
	}
	spoil(reflect.ValueOf(&s).Elem())
	if !reflect.DeepEqual(second, plainRich()) {
		t.Errorf("P7.3: a change of the source changes the result")
	}
	third := rich()
	print.Module(third)
	print.Def(third.Defs[0])
	if !reflect.DeepEqual(third, rich()) {
		t.Errorf("Module or Def changes its argument")
	}
}

// parts divides a text at its points.
func parts(s string) []string { return strings.Split(s, ".") }

func TestKept(t *testing.T) {
	for _, x := range []struct{ layout, old, now, want string }{
		// One token replaced: at the beginning, in the middle, at the end
		{"0.1.2.3", "a.b.c", "x.b.c", ".1.2.3"},
		{"0.1.2.3", "a.b.c", "a.x.c", "0. .2.3"},
		{"0.1.2.3", "a.b.c", "a.b.x", "0.1. .3"},
		{"0.1.2.3", "a.b.c", "x.b.y", ". . .3"},
		{"0.1.2.3", "a.b.c", "a.(.c", "0. .2.3"},
		{"0.1.2.3", "a.b.c", "a.).c", "0..2.3"},
		{"0.1.2.3", "a.b.c", "a.b.)", "0.1..3"},
		// with nothing behind it
		{"0.1..3", "a.b.c", "a.x.c", "0. . .3"},
		{"0.1..3", "a.b.)", "a.x.)", "0. ..3"},
		{"0.1..3", "a.b.c", "a.(.c", "0. ..3"},
		{"0..2.3", "a.b.c", "x.b.c", ". .2.3"},
		{"0.1.2.", "a.b.c", "a.b.x", "0.1. ."},
		{"0.1..", "a.b.c", "x.b.c", ".1.."},
		{"0.1..", "a.b.c", "a.x.c", "0. . ."},
		{"...", "a.b.c", "a.b.c", "..."},
		// Tokens put in
		{"0.1.2", "a.b", "x.a.b", ".0.1.2"},
		{".1.2", "a.b", "x.a.b", ". .1.2"},
		{".1.2", "a.b", "(.a.b", "..1.2"},
		{"0.1.2", "a.b", "a.x.b", "0. .1.2"},
		{"0..2", "a.b", "a.x.b", "0. . .2"},
		{"0..2", "a.b", "a.(.b", "0. ..2"},
		{"0.1.2", "a.b", "a.b.x", "0.1. .2"},
		{"0.1.", "a.b", "a.b.x", "0.1. ."},
		{"0.1.2", "a.b", "x.y.a.z.b.x", ". . . . . .2"},
		{"0.1.2.3", "a.b.c", "a.x.y.c", "0. . .2.3"},
		// Tokens left out
		{"0.1.2.3", "a.b.c", "b.c", "1.2.3"},
		{"0..2.3", "a.b.c", "b.c", ".2.3"},
		{"0.1.2.3", "a.b.c", "a.c", "0.2.3"},
		{"0.1..3", "a.b.c", "a.c", "0. .3"},
		{"0.1..3", "a.b.)", "a.)", "0..3"},
		{"0.1.2.3", "a.b.c", "a.b", "0.1.3"},
		{"0.1.2.", "a.b.c", "a.b", "0.1."},
		{"0.1.2.3", "a.b.c", "b", ".3"},
		{"0.1.2.3.4", "a.b.c.d", "a.d", "0.3.4"},
		// No common token
		{"0.1.2", "a.b", "c.d", ". .2"},
		{"0.1.2", "a.b", "c", ".2"},
		{"0.1", "a", "c.d.e", ". . .1"},
		{"0.1.2", "a.b", "b.a", ". .2"},
		{"0.1.", "a.b", "b.a", ". ."},
		// Equal lists
		{"0.1.2", "a.b", "a.b", "0.1.2"},
		{"0..", "a.b", "a.b", "0.."},
		{"0.", "a", "a", "0."},
		// Common tokens at the beginning and at the end that overlap
		{"0.1.2.3", "a.a.a", "a.a", "0.1.3"},
		{"0.1.2.", "a.a.a", "a.a", "0.1."},
		{"0.1.2", "a.a", "a.a.a", "0.1. .2"},
		{"0.1.", "a.a", "a.a.a", "0.1. ."},
		{"0.1", "a", "a.a", "0. .1"},
		{"0.1.2", "a.a", "a", "0.2"},
		{"0.1.2.3", "a.b.a", "a", "0.3"},
		{"0.1", "a", "a.b.a", "0. . .1"},
		{"0.1.2.3.4", "a.b.a.b", "a.b", "0.1.4"},
		{"0.1.2.3.4.5", "a.b.a.b.a", "a.b.a", "0.1.2.5"},
		{"0.1.2.3", "a.b.a", "a.b.a.b.a", "0.1.2. . .3"},
		{"0.1.2.3.4", "a.a.b.b", "a.b", "0.3.4"},
		{"0.1.2", "a.b", "a.a.b.b", "0. . .1.2"},
		// Elements of layouts and tokens that are no blanks and no tokens
		{"?.x.\xff", ". ", "y. ", ".x.\xff"},
		{"?.x.\xff", ". ", ".y", "?. .\xff"},
	} {
		if got := print.Kept(parts(x.layout), parts(x.old), parts(x.now)); !slices.Equal(got, parts(x.want)) {
			t.Errorf("P7.4: Kept of %q for %q and %q is %q, not %q", x.layout, x.old, x.now, got, x.want)
		}
	}
}

// TestKeptOfNone has empty lists of tokens, and layouts that do not fit.
func TestKeptOfNone(t *testing.T) {
	none := []string{}
	for _, x := range []struct{ layout, old, now, want []string }{
		{parts("0"), none, none, parts("0")},
		{parts("0"), nil, nil, parts("0")},
		{parts(""), none, none, parts("")},
		{parts("0"), none, parts("a"), parts(".0")},
		{parts(""), none, parts("a"), parts(".")},
		{parts("0"), nil, parts("a.b.("), parts(". . .0")},
		{parts("0.1"), parts("a"), none, parts("1")},
		{parts("0.1"), parts("a"), nil, parts("1")},
		{parts("0."), parts("a"), none, parts("")},
		{parts("0.1.2.3"), parts("a.b.c"), none, parts("3")},
		{nil, nil, nil, nil},
		{none, none, parts("a"), nil},
		{nil, parts("a"), parts("a"), nil},
		{none, parts("a"), none, nil},
		{parts("0"), parts("a"), parts("a"), nil},
		{parts("0"), parts("a"), none, nil},
		{parts("0.1.2"), parts("a"), parts("a"), nil},
		{parts("0.1.2"), parts("a"), parts("a.b"), nil},
		{parts("0.1"), none, parts("a"), nil},
		{parts("0.1"), none, none, nil},
		{parts("0.1"), parts("a.b"), parts("a"), nil},
		{parts("0.1.2.3"), parts("a.b"), parts("a.b.c"), nil},
		{make([]string, 1000), parts("a.b"), parts("a.b"), nil},
	} {
		if got := print.Kept(x.layout, x.old, x.now); !slices.Equal(got, x.want) {
			t.Errorf("P7.4: Kept of %q for %q and %q is %q, not %q", x.layout, x.old, x.now, got, x.want)
		}
	}
}

func TestKeptMemory(t *testing.T) {
	for _, now := range []string{"a.b.c", "a.x.c", "x", "a.b", "b.c", "a.b.c.d", "x.a.b.c"} {
		layout, old, now := parts("0.1.2.3.4.5"), parts("a.b.c.d"), parts(now)
		first := print.Kept(layout[:4], old[:3], now)
		second := print.Kept(layout[:4], old[:3], now)
		want := slices.Clone(first)
		spoil(reflect.ValueOf(first))
		if !slices.Equal(layout, parts("0.1.2.3.4.5")) || !slices.Equal(old, parts("a.b.c.d")) || !slices.Equal(second, want) {
			t.Errorf("P7.4: Kept changes an argument, or a change of the result does")
		}
		if third := print.Kept(layout[:4], old[:3], now); !slices.Equal(third, want) {
			t.Errorf("P7.4: Kept returns %q, and then %q", want, third)
		}
	}
	// All arguments are parts of one list.
	same := parts("a.b.a.b.c")
	got := print.Kept(same, same[:4], same[1:])
	if !slices.Equal(got, parts(". . . .c")) {
		t.Errorf("P7.4: Kept of %q returns %q", same, got)
	}
	spoil(reflect.ValueOf(got))
	if !slices.Equal(same, parts("a.b.a.b.c")) {
		t.Errorf("P7.4: Kept changes its arguments, or a change of the result does")
	}
}

func TestExample(t *testing.T) {
	tokens := strings.Fields("fun f ( a Int ) Int = a")
	if got := syntax.Tokens(sample); !slices.Equal(got, tokens) {
		t.Fatalf("the tokens are %q", got)
	}
	if got := print.Def(sample); got != "fun f (a Int) Int = a\n" {
		t.Errorf("the text in the usual layout is %q", got)
	}
	layout := lex.Usual(tokens)
	layout[8], layout[9] = "  ", " # same"
	g := sample
	g.Name = "g"
	g.Layout = print.Kept(layout, tokens, syntax.Tokens(g))
	if got := print.Def(g); got != "fun g (a Int) Int =  a # same" {
		t.Errorf("the changed text is %q", got)
	}
}

// TestSizes has texts of 8192 bytes and more.
func TestSizes(t *testing.T) {
	for n := 8185; n < 8200; n++ {
		s := source{Name: "m", Defs: []form{small}, End: strings.Repeat("\n", n-18)}
		want := "module m\nrec P ()\n" + s.End
		if got := print.Module(s); got != want || len(got) != n {
			t.Errorf("P7.2: the text of %d bytes has %d", n, len(got))
		}
		if read, at := syntax.Parse(want); (at == -1 && syntax.Same(read, s)) != (n <= 8192) {
			t.Errorf("P7.6: the text of %d bytes is read as %v, %d", n, read, at)
		}
		blanks := "#" + strings.Repeat("x", n-9) + "\n"
		f := with(small, "", " ", "", "", blanks)
		if got := print.Def(f); got != "rec P()"+blanks || len(got) != n {
			t.Errorf("P7.1: the text of %d bytes has %d", n, len(got))
		}
		if got := print.Kept(f.Layout, parts("rec.P.(.)"), parts("rec.Q.(.)")); !slices.Equal(got, []string{"", " ", " ", "", blanks}) {
			t.Errorf("P7.4: Kept does not keep %d bytes", n)
		}
	}
}

// TestManyTokens has lists of a million tokens.
func TestManyTokens(t *testing.T) {
	const n = 1 << 20
	old, layout := slices.Repeat([]string{"a"}, n), slices.Repeat([]string{"#\n"}, n+1)
	now := slices.Clone(old)
	now[n/2] = "b"
	want := slices.Clone(layout)
	want[n/2] = " "
	if !slices.Equal(print.Kept(layout, old, now), want) {
		t.Errorf("P7.4: a long layout is not kept")
	}
	longer := slices.Repeat([]string{"a"}, n+5)
	want = slices.Concat(layout[:n], slices.Repeat([]string{" "}, 5), layout[:1])
	if !slices.Equal(print.Kept(layout, old, longer), want) {
		t.Errorf("P7.4: a long layout is not kept at the beginning")
	}
	s := source{Name: "m", Uses: slices.Repeat([]string{"k"}, n), End: strings.Repeat(" ", n)}
	if got := print.Module(s); got != "module m"+strings.Repeat(" use k", n)+"\n"+s.End {
		t.Errorf("P7.2: the text of a long head has %d bytes", len(got))
	}
	many := source{Name: "m", Defs: slices.Repeat([]form{small}, 1<<16)}
	if got := print.Module(many); got != "module m\n"+strings.Repeat("rec P ()\n", 1<<16) {
		t.Errorf("P7.2: the text of many forms has %d bytes", len(got))
	}
	if got := print.Plain(many); !syntax.Same(got, many) {
		t.Errorf("P7.3: Plain of many forms has %d forms", len(got.Defs))
	}
}
