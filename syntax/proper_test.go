package syntax_test

import (
	"cmp"
	"math"
	"reflect"
	"slices"
	"strings"
	"testing"

	"splicery/api"
	"splicery/syntax"
)

// function returns a function with a body.
func function(t term) form {
	return form{Kind: api.KFun, Name: "f", Result: named("Int"), Body: t}
}

// proper checks whether a form has tokens, and that those that it has are read as the form.
func proper(t *testing.T, f form, want bool) {
	t.Helper()
	l := syntax.Tokens(f)
	if len(l) > 0 != want {
		t.Fatalf("P6.1: the tokens of %v are %q", f, l)
	}
	s := syntax.Source{Name: "m", Defs: []form{f}}
	if want {
		read := reads(t, "module m "+strings.Join(l, " "))
		if !syntax.Same(read, s) {
			t.Fatalf("P6.1: the tokens of %v are %q", f, l)
		}
	}
	s.Defs[0].Layout = nil
	if syntax.Valid(s) != want {
		t.Fatalf("P6.3: Valid of a source with %v is %t", f, !want)
	}
}

// usual has a proper term of each kind, and the fields that the kind uses.
func usual() []struct {
	t    term
	uses string
} {
	return []struct {
		t    term
		uses string
	}{
		{num(3), "N"},
		{term{Kind: api.NBool, N: 1}, "N"},
		{a, "Name"},
		{call("k.g", a, b), "Name Kids"},
		{call("g"), "Name Kids"},
		{op(api.Add, a, b), "N Kids"},
		{op(api.Not, a), "N Kids"},
		{choice(a, b, c), "Kids"},
		{let("x", a, b), "Names Kids"},
		{record("k.P", "x y", a, b), "Name Names Kids"},
		{record("P", ""), "Name Names Kids"},
		{field("P", "x", a), "Name Field Kids"},
		{variant("S", "A", a), "Name Field Kids"},
		{match("S", "A x B y", a, b, c), "Name Names Kids"},
		{list(named("k.P"), a, b), "Type Kids"},
		{list(listOf(named("Int"))), "Type Kids"},
		{fold("x", "y", a, b, c), "Names Kids"},
	}
}

func TestUnusedFields(t *testing.T) {
	for _, x := range usual() {
		proper(t, function(x.t), true)
		uses := strings.Fields(x.uses)
		for field, others := range map[string][]term{
			"N":     {{N: 1}, {N: -1}},
			"Name":  {{Name: "x"}, {Name: " "}},
			"Field": {{Field: "x"}, {Field: " "}},
			"Type":  {{Type: named("Int")}, {Type: named("x")}, {Type: word{Kids: []word{{}}}}},
			"Kids":  {{Kids: []term{{}}}, {Kids: []term{a, b}}},
			"Names": {{Names: []string{"x"}}, {Names: []string{""}}},
		} {
			if slices.Contains(uses, field) {
				continue
			}
			for _, o := range others {
				y := x.t
				y.N, y.Name, y.Field, y.Type = y.N+o.N, y.Name+o.Name, y.Field+o.Field, word{y.Type.Name + o.Type.Name, append(o.Type.Kids, y.Type.Kids...)}
				y.Kids, y.Names = slices.Concat(y.Kids, o.Kids), slices.Concat(y.Names, o.Names)
				proper(t, function(y), false)
			}
		}
	}
	// Empty lists are like none.
	full := term{Type: word{Kids: []word{}}, Kids: []term{}, Names: []string{}}
	proper(t, function(full), true)
	proper(t, form{Kind: api.KRec, Name: "P", Slots: []syntax.Field{}, Result: word{Kids: []word{}}, Body: full, Layout: []string{}}, true)
}

func TestKindsOfTerms(t *testing.T) {
	for _, kind := range []int{-1, api.NFold + 1, 100, math.MaxInt, math.MinInt} {
		for _, x := range usual() {
			x.t.Kind = kind
			proper(t, function(x.t), false)
		}
		proper(t, function(term{Kind: kind}), false)
	}
}

func TestNumbersOfTerms(t *testing.T) {
	for _, n := range []int{0, 1, -1, 2, api.MaxInt, -api.MaxInt, api.MaxInt + 1, -api.MaxInt - 1, math.MaxInt, math.MinInt} {
		proper(t, function(num(n)), n >= -api.MaxInt && n <= api.MaxInt)
		proper(t, function(term{Kind: api.NBool, N: n}), n == 0 || n == 1)
	}
	for _, n := range []int{-1, api.Len + 1, 12, 100, math.MaxInt, math.MinInt} {
		for kids := range 4 {
			proper(t, function(op(n, []term{a, b, c}[:kids]...)), false)
		}
	}
	for n := api.Add; n <= api.Len; n++ {
		for kids := range 4 {
			want := 2
			if n == api.Not || n == api.Len {
				want = 1
			}
			proper(t, function(op(n, []term{a, b, c}[:kids]...)), kids == want)
		}
	}
}

func TestNumbersOfKids(t *testing.T) {
	kids, names := []term{a, b, c, d, a, b}, []string{"x", "y", "z", "u", "v", "w", "x", "y"}
	for k := range len(kids) + 1 {
		proper(t, function(term{Kind: api.NCall, Name: "g", Kids: kids[:k]}), true)
		proper(t, function(term{Kind: api.NList, Type: named("Int"), Kids: kids[:k]}), true)
		proper(t, function(term{Kind: api.NIf, Kids: kids[:k]}), k == 3)
		proper(t, function(term{Kind: api.NField, Name: "P", Field: "x", Kids: kids[:k]}), k == 1)
		proper(t, function(term{Kind: api.NCase, Name: "P", Field: "x", Kids: kids[:k]}), k == 1)
		for n := range len(names) + 1 {
			proper(t, function(term{Kind: api.NLet, Kids: kids[:k], Names: names[:n]}), k == 2 && n == 1)
			proper(t, function(term{Kind: api.NFold, Kids: kids[:k], Names: names[:n]}), k == 3 && n == 2)
			proper(t, function(term{Kind: api.NRec, Name: "P", Kids: kids[:k], Names: names[:n]}), k == n)
			proper(t, function(term{Kind: api.NMatch, Name: "S", Kids: kids[:k], Names: names[:n]}), k >= 2 && n == 2*k-2)
		}
	}
}

func TestNamesOfTerms(t *testing.T) {
	for s, is := range map[string]int{"a": 1, "A9": 1, "k.g": 2, "K1.G1": 2, "abcdefghijklmnop": 1, "abcdefghijklmnop.abcdefghijklmnop": 2, "": 0, ".": 0, "a.": 0, ".a": 0, "a.b.c": 0, "a..b": 0, "a .b": 0, "a. b": 0, " a": 0, "a ": 0,
		"if": 0, "if.a": 0, "a.if": 0, "Int": 0, "Bool": 0, "List": 0, "k.Int": 0, "List.a": 0, "1": 0, "1a": 0, "a.1": 0, "abcdefghijklmnopq": 0, "a.abcdefghijklmnopq": 0, "abcdefghijklmnopq.a": 0, "ä": 0, "a,b": 0, "a\n": 0, "#": 0, "a#": 0} {
		for _, x := range []term{name(s), let(s, a, b), fold(s, "x", a, b, c), fold("x", s, a, b, c), field("P", s, a), variant("S", s, a),
			{Kind: api.NRec, Name: "P", Names: []string{s}, Kids: []term{a}}, {Kind: api.NRec, Name: "P", Names: []string{"x", s}, Kids: []term{a, b}},
			{Kind: api.NMatch, Name: "S", Names: []string{s, "x"}, Kids: []term{a, b}}, {Kind: api.NMatch, Name: "S", Names: []string{"A", s}, Kids: []term{a, b}}, {Kind: api.NMatch, Name: "S", Names: []string{"A", "x", "B", s}, Kids: []term{a, b, c}}} {
			proper(t, function(x), is == 1)
		}
		for _, x := range []term{call(s), call(s, a), record(s, ""), record(s, "x", a), field(s, "x", a), variant(s, "A", a), match(s, "A x", a, b)} {
			proper(t, function(x), is > 0)
		}
		proper(t, form{Kind: api.KRec, Name: s}, is == 1)
		proper(t, form{Kind: api.KTest, Name: s, Result: named("Int")}, is == 1)
		proper(t, form{Kind: api.KRec, Name: "P", Slots: fields("x", named("Int"), 0, s, named("Int"), 0)}, is == 1)
		isType := is > 0 || s == "Int" || s == "Bool"
		for _, w := range []word{named(s), listOf(named(s)), listOf(listOf(named(s)))} {
			proper(t, form{Kind: api.KRec, Name: "P", Slots: fields("x", w, 0)}, isType)
			proper(t, form{Kind: api.KOn, Name: "h", Result: w}, isType)
			proper(t, function(list(w)), isType)
		}
		for _, w := range []word{{s, []word{named("Int")}}, {s, []word{named("Int"), named("Int")}}, {s, []word{{}}}, {s, []word{named("List")}}} {
			good := s == "List" && len(w.Kids) == 1 && w.Kids[0].Name == "Int"
			proper(t, form{Kind: api.KCase, Name: "S", Slots: fields("x", w, 0)}, good)
			proper(t, form{Kind: api.KConv, Name: "v", Result: w}, good)
			proper(t, function(list(w, a)), good)
		}
	}
}

// TestKidsOfTerms has a term that is not proper in the place of each kid.
func TestKidsOfTerms(t *testing.T) {
	for _, x := range usual() {
		for i := range x.t.Kids {
			for _, bad := range []term{name("if"), name(""), num(api.MaxInt + 1), {Kind: -1}, call("g", name("1")), op(api.Not)} {
				y := x.t
				y.Kids = slices.Clone(y.Kids)
				y.Kids[i] = bad
				proper(t, function(y), false)
				proper(t, function(choice(a, b, y)), false)
			}
			y := x.t
			y.Kids = slices.Clone(y.Kids)
			y.Kids[i] = x.t
			proper(t, function(y), true)
		}
	}
}

func TestKindsOfForms(t *testing.T) {
	for _, kind := range []int{-1, api.KConv + 1, 100, math.MaxInt, math.MinInt} {
		proper(t, form{Kind: kind, Name: "f"}, false)
		proper(t, form{Kind: kind, Name: "f", Result: named("Int"), Body: a}, false)
	}
	for kind := api.KRec; kind <= api.KConv; kind++ {
		hasBody := kind != api.KRec && kind != api.KCase
		for _, w := range []word{{}, named("Int"), listOf(named("P")), {"", []word{{}}}, named("if")} {
			for _, x := range []term{{}, num(1), a, {Name: "x"}, {Field: "x"}, {Names: []string{"x"}}, {Kids: []term{{}}}, {Type: named("Int")}, {Kind: api.NBool}, {Kind: -1}, name("if"), op(api.Add, a, b)} {
				isBody := len(syntax.Tokens(function(x))) > 0
				isEmpty := sameTerm(x, term{})
				want := !hasBody && w.Name == "" && len(w.Kids) == 0 && isEmpty || hasBody && w.Name != "" && w.Name != "if" && isBody
				proper(t, form{Kind: kind, Name: "f", Result: w, Body: x}, want)
			}
		}
		for _, most := range []int{0, 1, 10, api.MaxInt, api.MaxInt + 1, -1, math.MaxInt, math.MinInt} {
			f := form{Kind: kind, Name: "f", Slots: fields("x", named("Int"), 0, "y", named("Bool"), most)}
			if hasBody {
				f.Result, f.Body = named("Int"), a
			}
			proper(t, f, most == 0 || kind == api.KTest && most > 0 && most <= api.MaxInt)
		}
	}
}

// TestTokensOfLayouts has layouts that play no part for the tokens.
func TestTokensOfLayouts(t *testing.T) {
	f := function(op(api.Add, a, b))
	want := strings.Fields("fun f ( ) Int = a + b")
	for _, l := range [][]string{nil, {}, {""}, {"x", "y"}, make([]string, 10), make([]string, 11), make([]string, 1000)} {
		f.Layout = l
		if got := syntax.Tokens(f); !slices.Equal(got, want) {
			t.Errorf("P6.1: with the layout %q the tokens are %q", l, got)
		}
	}
}

func TestValid(t *testing.T) {
	p, f := form{Kind: api.KRec, Name: "P"}, function(op(api.Add, a, num(-1)))
	with := func(f form, layout ...string) form {
		f.Layout = layout
		return f
	}
	pLayout := func(first, last string) form { return with(p, first, " ", "", "", last) }
	for _, x := range []struct {
		s    syntax.Source
		want bool
	}{
		{syntax.Source{}, false},
		{syntax.Source{Name: "m"}, true},
		{syntax.Source{Name: "m", Uses: []string{"k", "j"}}, true},
		{syntax.Source{Name: "if"}, false},
		{syntax.Source{Name: "m", Uses: []string{"k."}}, false},
		{syntax.Source{Name: "m", Defs: []form{p, f, p}}, true},
		{syntax.Source{Name: "m", Defs: []form{{}}}, false},
		{syntax.Source{Name: "m", Defs: []form{p, {Kind: -1}}}, false},
		{syntax.Source{Name: "m", Defs: []form{{Kind: -1}, p}}, false},
		// The end
		{syntax.Source{Name: "m", End: "\n"}, true},
		{syntax.Source{Name: "m", End: " # x\n#"}, true},
		{syntax.Source{Name: "m", End: "x"}, false},
		{syntax.Source{Name: "m", End: "?"}, false},
		{syntax.Source{Name: "m", End: "rec P ()"}, false},
		{syntax.Source{Name: "m", End: "use k"}, false},
		{syntax.Source{Name: "m", Defs: []form{p}, End: " # x"}, true},
		{syntax.Source{Name: "m", Defs: []form{p}, End: "rec P ()"}, false},
		{syntax.Source{Name: "m", Defs: []form{f}, End: "+ 1"}, false},
		// The head
		{syntax.Source{Name: "m", Head: []string{}}, true},
		{syntax.Source{Name: "m", Head: []string{"", " ", ""}}, true},
		{syntax.Source{Name: "m", Head: []string{"", " ", ""}, End: " "}, false},
		{syntax.Source{Name: "m", Head: []string{"", " ", " #"}, End: "\n"}, false},
		{syntax.Source{Name: "m", Head: []string{"", " ", "\n"}, End: "\n"}, true},
		{syntax.Source{Name: "m", Head: []string{"", " ", "\n\n"}}, false},
		{syntax.Source{Name: "m", Head: []string{"", " ", "\n "}}, false},
		{syntax.Source{Name: "m", Head: []string{"#\n", "#\n#\n", "#\n"}, End: "#\n#"}, true},
		{syntax.Source{Name: "m", Head: []string{"", "", ""}}, false},
		{syntax.Source{Name: "m", Head: []string{"", " #", ""}}, false},
		{syntax.Source{Name: "m", Head: []string{"", " x ", ""}}, false},
		{syntax.Source{Name: "m", Head: []string{"x", " ", ""}}, false},
		{syntax.Source{Name: "m", Head: []string{"", " ", "x"}}, false},
		{syntax.Source{Name: "m", Head: []string{"", " ", " use k\n"}}, false},
		{syntax.Source{Name: "m", Head: []string{"", "\t", ""}}, false},
		{syntax.Source{Name: "m", Head: []string{"", " "}}, false},
		{syntax.Source{Name: "m", Head: []string{"", " ", "", ""}}, false},
		{syntax.Source{Name: "m", Head: []string{"", " ", "\n", ""}}, false},
		{syntax.Source{Name: "m", Head: []string{""}}, false},
		// The forms
		{syntax.Source{Name: "m", Head: []string{"", " ", ""}, Defs: []form{p}}, false},
		{syntax.Source{Name: "m", Head: []string{"", " ", " "}, Defs: []form{p}}, true},
		{syntax.Source{Name: "m", Head: []string{"", " ", "#"}, Defs: []form{p}}, false},
		{syntax.Source{Name: "m", Head: []string{"", " ", "\n\n"}, Defs: []form{p}}, false},
		{syntax.Source{Name: "m", Head: []string{"", " ", "\n "}, Defs: []form{p}}, false},
		{syntax.Source{Name: "m", Head: []string{"", " ", "\n"}, Defs: []form{p}}, true},
		{syntax.Source{Name: "m", Head: []string{"", " ", "#\n"}, Defs: []form{p}}, true},
		{syntax.Source{Name: "m", Head: []string{"", " ", " "}, Defs: []form{pLayout("", "")}}, true},
		{syntax.Source{Name: "m", Head: []string{"", " ", " "}, Defs: []form{pLayout(" ", "")}}, false},
		{syntax.Source{Name: "m", Head: []string{"", " ", ""}, Defs: []form{pLayout(" ", "")}}, false},
		{syntax.Source{Name: "m", Defs: []form{pLayout(" ", " ")}}, true},
		{syntax.Source{Name: "m", Defs: []form{pLayout("\n # x\n ", " # x")}}, true},
		{syntax.Source{Name: "m", Defs: []form{pLayout("", "#x")}, End: "\n"}, false},
		{syntax.Source{Name: "m", Defs: []form{pLayout("", "\n\n"), p}}, false},
		{syntax.Source{Name: "m", Defs: []form{pLayout("", "\n#\n"), p}}, false},
		{syntax.Source{Name: "m", Defs: []form{pLayout("", "#x\n")}, End: "\n"}, true},
		{syntax.Source{Name: "m", Defs: []form{pLayout("", ""), p}}, true},
		{syntax.Source{Name: "m", Defs: []form{pLayout("", ""), pLayout("", ""), p}}, true},
		{syntax.Source{Name: "m", Defs: []form{p, pLayout("", " #"), p}}, false},
		{syntax.Source{Name: "m", Defs: []form{pLayout("", ""), pLayout(" ", "")}}, false},
		{syntax.Source{Name: "m", Defs: []form{pLayout("", " "), pLayout("", "")}}, true},
		{syntax.Source{Name: "m", Defs: []form{pLayout("", "\n"), pLayout(" ", "")}}, true},
		{syntax.Source{Name: "m", Defs: []form{pLayout("", ""), pLayout("\n", "")}}, false},
		{syntax.Source{Name: "m", Defs: []form{pLayout("", "rec Q ()\n")}}, false},
		{syntax.Source{Name: "m", Defs: []form{pLayout("rec Q ()\n", "")}}, false},
		{syntax.Source{Name: "m", Defs: []form{with(p, "", " ", "", "")}}, false},
		{syntax.Source{Name: "m", Defs: []form{with(p, "", " ", "", "", "", "")}}, false},
		{syntax.Source{Name: "m", Defs: []form{with(p, "")}}, false},
		{syntax.Source{Name: "m", Defs: []form{with(p, "", "", "", "", "")}}, false},
		{syntax.Source{Name: "m", Defs: []form{with(f, "", " ", " ", "", " ", " ", " ", " ", " ", " ", "\n")}}, true},
		{syntax.Source{Name: "m", Defs: []form{with(f, "", " ", " ", "", " ", " ", " ", " ", " ", "", "\n")}}, true},
		{syntax.Source{Name: "m", Defs: []form{with(f, "", " ", "", "", "", "", "", "", "", "", "")}}, true},
		{syntax.Source{Name: "m", Defs: []form{with(f, "", " ", "", "", "", "", "", "", "", "", " ")}, End: " "}, false},
		{syntax.Source{Name: "m", Defs: []form{with(f, "", "", "", "", "", "", "", "", "", "", "")}}, false},
		{syntax.Source{Name: "m", Defs: []form{with(f, "", " ", "", "", "", "", "", "", "", "", "", "\n")}}, false},
	} {
		if got := syntax.Valid(x.s); got != x.want {
			t.Errorf("P6.3: Valid of %+v is %t", x.s, got)
		}
	}
}

func TestValidLimit(t *testing.T) {
	for n := 8180; n < 8200; n++ {
		// The usual text of the head is "module m" and a line end.
		s := syntax.Source{Name: "m", End: strings.Repeat(" ", n-9)}
		if syntax.Valid(s) != (n <= 8192) {
			t.Errorf("P6.3: Valid of a source with a text of %d bytes is %t", n, n > 8192)
		}
		s = syntax.Source{Name: "m", Head: []string{"", " ", strings.Repeat(" ", n-9) + "\n"}}
		if syntax.Valid(s) != (n <= 8192) {
			t.Errorf("P6.3: Valid of a source with a text of %d bytes is %t", n, n > 8192)
		}
	}
	many := syntax.Source{Name: "m"}
	for n := 9; n < 10000; n += len("rec P ()\n") {
		if (n < 100 || n > 8000 && n < 8300) && syntax.Valid(many) != (n <= 8192) {
			t.Fatalf("P6.3: Valid of a source with a text of %d bytes is %t", n, n > 8192)
		}
		many.Defs = append(many.Defs, form{Kind: api.KRec, Name: "P"})
	}
	huge := syntax.Source{Name: "m", Uses: slices.Repeat([]string{"k"}, 100000), Defs: slices.Repeat(many.Defs, 20), End: strings.Repeat("\n", 1000000)}
	if syntax.Valid(huge) {
		t.Errorf("P6.3: a source with a huge text is valid")
	}
}

func TestDeepForms(t *testing.T) {
	deep, w := a, named("Int")
	for range 1 << 16 {
		deep, w = op(api.Not, deep), listOf(w)
	}
	f := form{Kind: api.KFun, Name: "f", Result: w, Body: deep}
	if n := len(syntax.Tokens(f)); n != 5+3<<16+1+1+1<<16+1-1 {
		t.Errorf("P1: a deep form has %d tokens", n)
	}
	s := syntax.Source{Name: "m", Defs: []form{f}}
	if !syntax.Same(s, s) || syntax.Valid(s) {
		t.Errorf("P1: a deep form is not the same, or valid")
	}
}

// others returns sources that differ from a source in one field each.
func others() (syntax.Source, []syntax.Source) {
	make := func() syntax.Source {
		return syntax.Source{Name: "m", Uses: []string{"k"}, Defs: []form{
			{Kind: api.KTest, Name: "t", Slots: fields("x", listOf(named("P")), 2), Result: listOf(named("P")), Body: term{Kind: 1, N: 1, Name: "n", Field: "f", Type: listOf(named("P")), Kids: []term{a}, Names: []string{"x"}}},
			{Kind: api.KRec, Name: "P"},
		}}
	}
	var l []syntax.Source
	for _, change := range []func(s *syntax.Source, f *form){
		func(s *syntax.Source, f *form) { s.Name = "n" },
		func(s *syntax.Source, f *form) { s.Uses = nil },
		func(s *syntax.Source, f *form) { s.Uses[0] = "j" },
		func(s *syntax.Source, f *form) { s.Uses = append(s.Uses, "k") },
		func(s *syntax.Source, f *form) { s.Defs = s.Defs[:1] },
		func(s *syntax.Source, f *form) { s.Defs = append(s.Defs, form{}) },
		func(s *syntax.Source, f *form) { slices.Reverse(s.Defs) },
		func(s *syntax.Source, f *form) { s.Defs[1].Name = "Q" },
		func(s *syntax.Source, f *form) { f.Kind++ },
		func(s *syntax.Source, f *form) { f.Name = "" },
		func(s *syntax.Source, f *form) { f.Slots = nil },
		func(s *syntax.Source, f *form) { f.Slots = append(f.Slots, syntax.Field{}) },
		func(s *syntax.Source, f *form) { f.Slots[0].Name = "" },
		func(s *syntax.Source, f *form) { f.Slots[0].Type.Name = "" },
		func(s *syntax.Source, f *form) { f.Slots[0].Type.Kids = nil },
		func(s *syntax.Source, f *form) { f.Slots[0].Type.Kids[0].Name = "" },
		func(s *syntax.Source, f *form) { f.Slots[0].Most = -2 },
		func(s *syntax.Source, f *form) { f.Result.Name = "" },
		func(s *syntax.Source, f *form) { f.Result.Kids = append(f.Result.Kids, word{}) },
		func(s *syntax.Source, f *form) { f.Result.Kids[0].Kids = []word{{}} },
		func(s *syntax.Source, f *form) { f.Body.Kind = 0 },
		func(s *syntax.Source, f *form) { f.Body.N = 0 },
		func(s *syntax.Source, f *form) { f.Body.Name = "" },
		func(s *syntax.Source, f *form) { f.Body.Field = "" },
		func(s *syntax.Source, f *form) { f.Body.Type.Name = "" },
		func(s *syntax.Source, f *form) { f.Body.Type.Kids[0].Name = "" },
		func(s *syntax.Source, f *form) { f.Body.Kids = nil },
		func(s *syntax.Source, f *form) { f.Body.Kids = append(f.Body.Kids, term{}) },
		func(s *syntax.Source, f *form) { f.Body.Kids = []term{b} },
		func(s *syntax.Source, f *form) { f.Body.Names = nil },
		func(s *syntax.Source, f *form) { f.Body.Names[0] = "" },
		func(s *syntax.Source, f *form) { f.Body.Names = append(f.Body.Names, "") },
	} {
		s := make()
		change(&s, &s.Defs[0])
		l = append(l, s)
	}
	return make(), l
}

func TestSame(t *testing.T) {
	s, l := others()
	for i, x := range l {
		if syntax.Same(s, x) || syntax.Same(x, s) {
			t.Errorf("P6.4: the source is the same with change %d", i)
		}
		if !syntax.Same(x, x) {
			t.Errorf("P6.4: with change %d the source is not the same as itself", i)
		}
		for j, y := range l {
			if i != j && syntax.Same(x, y) {
				t.Errorf("P6.4: the sources with the changes %d and %d are the same", i, j)
			}
		}
	}
	again, _ := others()
	again.Head, again.End = []string{"x"}, "y"
	again.Defs[0].Layout, again.Defs[1].Layout = []string{"z"}, []string{""}
	again.Defs[1].Slots, again.Defs[1].Body.Kids, again.Defs[1].Body.Names, again.Defs[1].Result.Kids = []syntax.Field{}, []term{}, []string{}, []word{}
	if !syntax.Same(s, again) || !syntax.Same(again, s) {
		t.Errorf("P6.4: a source is not the same with another layout and empty lists")
	}
	if !syntax.Same(syntax.Source{}, syntax.Source{Uses: []string{}, Defs: []form{}, Head: []string{}}) {
		t.Errorf("P6.4: two empty sources are not the same")
	}
}

// span is the memory of a list.
type span struct{ from, to uintptr }

// spans returns the memory of the lists of a value.
func spans(v reflect.Value) []span {
	var l []span
	switch v.Kind() {
	case reflect.Struct:
		for i := range v.NumField() {
			l = append(l, spans(v.Field(i))...)
		}
	case reflect.Slice:
		if v.Cap() > 0 {
			l = append(l, span{v.Pointer(), v.Pointer() + uintptr(v.Cap())*v.Type().Elem().Size()})
		}
		for i := range v.Len() {
			l = append(l, spans(v.Index(i))...)
		}
	}
	return l
}

// TestMemory looks for memory that lists of results share with one another, or with arguments.
func TestMemory(t *testing.T) {
	s := "module m use k use j # x\nrec P (x List(Int), y k.P) # y\ntest t (x Int 2, y List(Bool) 3) List(Int) = match S(P{x = a, y = b}) {A x -> List(List(Int))[a + b, -1], B y -> let z = g(a, b) in fold u, v = a over b do if a then b else not c}\nrec P ()"
	first, second := reads(t, s), reads(t, s)
	var l []span
	for _, x := range []any{first, second, syntax.Heads(first), syntax.Heads(first), syntax.Tokens(first.Defs[0]), syntax.Tokens(first.Defs[1]), syntax.Tokens(first.Defs[1])} {
		l = append(l, spans(reflect.ValueOf(x))...)
	}
	slices.SortFunc(l, func(a, b span) int { return cmp.Compare(a.from, b.from) })
	for i := 1; i < len(l); i++ {
		if l[i].from < l[i-1].to {
			t.Errorf("two lists share memory")
		}
	}
	if third := reads(t, s); !reflect.DeepEqual(first, third) || !reflect.DeepEqual(second, third) {
		t.Errorf("Heads, Tokens, Valid or Same change their arguments")
	}
}
