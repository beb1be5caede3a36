package scope_test

import (
	"reflect"
	"slices"
	"strings"
	"testing"

	"splicery/api"
	"splicery/print"
	"splicery/scope"
	"splicery/syntax"
)

func TestLayouts(t *testing.T) {
	// The form has the tokens rec N ( x Int ).
	d := api.Def{ID: id(100), Kind: api.KRec, Mod: id(modM), Name: "N", Slots: slots(101, "x")}
	usual := []string{"", " ", " ", "", " ", "", "\n"}
	set := func(pairs ...any) []string {
		l := slices.Clone(usual)
		for i := 0; i < len(pairs); i += 2 {
			l[pairs[i].(int)] = pairs[i+1].(string)
		}
		return l
	}
	for _, x := range []struct {
		layout []string
		want   bool
	}{
		{usual, true}, {set(0, "\n\n# x\n  "), true}, {set(0, "#\n"), true}, {set(1, "\n"), true}, {set(2, ""), true}, {set(3, " # a (\n"), true}, {set(5, "\n\n"), true}, {set(4, "  "), true}, {set(0, " "), true},
		// The last element
		{set(6, ""), false}, {set(6, " "), false}, {set(6, " \n"), true}, {set(6, "# x y\n"), true}, {set(6, " # x"), false}, {set(6, "\n\n"), false}, {set(6, "\n "), false}, {set(6, "\n#"), false}, {set(6, "#\n\n"), false}, {set(6, "# \xff\t\n"), true}, {set(6, "#\r\n"), true}, {set(6, "\r\n"), false}, {set(6, "x\n"), false}, {set(6, ")\n"), false},
		// What is read otherwise, or not at all
		{set(1, ""), false}, {set(4, ""), false}, {set(1, "#"), false}, {set(1, " # x "), false}, {set(5, "#"), false}, {set(2, "\t"), false}, {set(0, "\r"), false}, {set(3, "y"), false}, {set(3, "("), false}, {set(0, "rec "), false}, {set(2, "?"), false}, {set(1, " #\n "), true}, {set(1, "1"), false}, {set(4, " #\r\n\n"), true}, {set(0, "#"), false}, {set(0, "\xff"), false}, {set(0, "#\xff\n"), true},
		// Other numbers of elements
		{nil, false}, {[]string{}, false}, {usual[:6], false}, {usual[1:], false}, {append(slices.Clone(usual), ""), false}, {append(slices.Clone(usual), "\n"), false}, {[]string{"\n"}, false}, {[]string{"", " ", " ", "", "\n"}, false},
		// The limit of lex.Scan: the tokens and the usual layout have 14 bytes.
		{set(0, strings.Repeat(" ", 8192-14)), true}, {set(0, strings.Repeat(" ", 8193-14)), false}, {set(6, "#"+strings.Repeat("x", 8192-15)+"\n"), true}, {set(6, "#"+strings.Repeat("x", 8193-15)+"\n"), false}, {set(2, strings.Repeat("\n", 1<<20)), false},
	} {
		d.Layout = x.layout
		f := unbound(t, world(), d)
		if x.want && !slices.Equal(f.Layout, x.layout) || !x.want && len(f.Layout) > 0 {
			t.Errorf("P8.3: with the layout %.200q the form has %.200q", x.layout, f.Layout)
		}
		boundAgain(t, world(), d)
	}
}

// TestOtherTokens has layouts that were usable for the names that a definition had.
func TestOtherTokens(t *testing.T) {
	f := read(t, "\n# adds\nfun n (a Int) Int = # with\n  k.f() + a # end\n")
	d, _, _ := scope.Bind(world(), id(modM), f, ids(100, 50))
	if got := unbound(t, world(), d); !reflect.DeepEqual(got, f) {
		t.Errorf("P8.3: the form is %+v, not %+v", got, f)
	}
	// The number of tokens stays with another name, and changes if the function of m has another one, and that of k needs no module before its name.
	p := world()
	p.Defs[2].Name = "other"
	got := unbound(t, p, renamed(d, "a b"))
	if len(got.Layout) > 0 || written(got) != "fun n (b Int) Int = f () + b" {
		t.Errorf("P8.3: the form is %+v", got)
	}
	if got := unbound(t, world(), renamed(d, "a b")); !slices.Equal(got.Layout, f.Layout) || print.Def(got) != "# adds\nfun n (b Int) Int = # with\n  k.f() + b # end\n" {
		t.Errorf("P8.3: the form is %+v", got)
	}
}

// sourced checks the source of a module, with P8.7.
func sourced(t *testing.T, p api.Prog, mod api.ID) syntax.Source {
	t.Helper()
	s, e := scope.Source(p, mod)
	if e != api.OK {
		t.Fatalf("P8.4: Source of %v fails with %d", mod, e)
	}
	text := print.Module(s)
	again, at := syntax.Parse(text)
	if !syntax.Valid(s) || at != -1 || !syntax.Same(again, s) || len(s.Head) > 0 || s.End != "" || len(text) > 8192 {
		t.Fatalf("P8.7: the source of %v is %+v; as a text, it is read as %+v, %d", mod, s, again, at)
	}
	return s
}

// sourceless checks that a module has no source.
func sourceless(t *testing.T, p api.Prog, mod api.ID, want api.Errno) {
	t.Helper()
	if s, e := scope.Source(p, mod); e != want || !reflect.DeepEqual(s, syntax.Source{}) {
		t.Errorf("P8.4: Source of %v is %+v, %d instead of the error %d", mod, s, e, want)
	}
}

func TestSource(t *testing.T) {
	p := world()
	p.Defs[2].Layout = []string{"# f\n", " ", " ", "", "  ", "", " ", " ", " ", " # a\n"}
	p.Defs[3].Layout = []string{"#"}
	p.Mods = append(p.Mods, api.Mod{ID: id(4), Name: "e"}, api.Mod{ID: id(5), Name: "u", Uses: append(ids(1, 5), id(1)), Defs: append(ids(funH, 1), id(funH), id(recP))}, api.Mod{ID: id(4), Name: "if"})
	for mod, want := range map[int]string{
		modM: "module m use k\nrec P (x Int, y Bool)\ncase S (A Int, B P)\n# f\nfun f (a  Int) Int = a # a\nconv c (p P) P = p\ntest t (a Int 3) Int = a\non o (s Int, e Int) Int = e\n",
		modK: "module k\nrec P (z Int)\ncase T (C Int, D Int, F Int)\nfun g (a Int, b Int) Int = b\nrec Q ()\ncase E ()\nfun f () Int = 1\n",
		modJ: "module j\nfun h () Int = 2\n",
		4:    "module e\n",
		5:    "module u use m use k use j use e use u use m\nfun h () Int = 2\nfun h () Int = 2\nrec P (x Int, y Bool)\n",
	} {
		s := sourced(t, p, id(mod))
		if got := print.Module(s); got != want {
			t.Errorf("P8.4: the source of %d is %q, not %q", mod, got, want)
		}
	}
	// The order is that of Defs, and what is not there does not count.
	p.Mods[0].Defs = []api.ID{id(onO), id(recP)}
	if got := print.Module(sourced(t, p, id(modM))); got != "module m use k\non o (s Int, e Int) Int = e\nrec P (x Int, y Bool)\n" {
		t.Errorf("P8.4: the source is %q", got)
	}
}

func TestSourceErrors(t *testing.T) {
	for _, mod := range []api.ID{{}, id(0), id(99), id(recP), {Shop: 1, Seq: 1, Index: modM}} {
		sourceless(t, world(), mod, api.ErrNone)
	}
	sourceless(t, api.Prog{}, api.ID{}, api.ErrNone)
	const dead, name, lost, noUse = 60, 61, 99, 98
	for _, x := range []struct {
		name string
		uses []int
		defs []int
		want api.Errno
	}{
		{"m", []int{modK}, []int{recP}, api.OK}, {"m", []int{modK, noUse}, []int{recP}, api.ErrNone}, {"m", []int{noUse}, []int{dead}, api.ErrNone}, {"if", []int{noUse}, []int{name}, api.ErrNone},
		{"m", nil, []int{lost}, api.ErrNone}, {"m", nil, []int{recP, lost}, api.ErrNone}, {"m", nil, []int{dead}, api.ErrDead}, {"m", nil, []int{name}, api.ErrName}, {"m", nil, []int{recP, dead, name, lost}, api.ErrDead}, {"m", nil, []int{recP, name, dead, lost}, api.ErrName}, {"m", nil, []int{lost, name, dead}, api.ErrNone}, {"m", nil, []int{funF, modM}, api.ErrNone},
		{"if", nil, []int{recP}, api.ErrName}, {"", nil, nil, api.ErrName}, {"k.m", nil, nil, api.ErrName}, {"abcdefghijklmnopq", nil, nil, api.ErrName}, {"abcdefghijklmnop", nil, nil, api.OK}, {"if", nil, []int{dead}, api.ErrDead}, {"if", nil, []int{lost}, api.ErrNone},
		{"m", []int{5}, nil, api.ErrName}, {"m", []int{modK, 6}, []int{recP}, api.ErrName}, {"m", []int{5}, []int{dead}, api.ErrDead},
	} {
		p := with(world(), api.Def{ID: id(dead), Kind: api.KFun, Mod: id(modM), Name: "n", Result: of(99)}, api.Def{ID: id(name), Kind: api.KFun, Mod: id(modM), Name: "if"})
		p.Mods = append(p.Mods, api.Mod{ID: id(5), Name: "use"}, api.Mod{ID: id(6), Name: "1"})
		p.Mods[0].Name, p.Mods[0].Uses, p.Mods[0].Defs = x.name, nil, nil
		for _, n := range x.uses {
			p.Mods[0].Uses = append(p.Mods[0].Uses, id(n))
		}
		for _, n := range x.defs {
			p.Mods[0].Defs = append(p.Mods[0].Defs, id(n))
		}
		if x.want == api.OK {
			sourced(t, p, id(modM))
		} else {
			sourceless(t, p, id(modM), x.want)
		}
	}
}

func TestSourceLimit(t *testing.T) {
	// Without the first element of its layout the text of the form has 14 bytes; that of the head has 9.
	for n := 8150; n < 8250; n++ {
		d := api.Def{ID: id(100), Kind: api.KRec, Mod: id(1), Name: "N", Slots: slots(101, "x")}
		d.Layout = []string{strings.Repeat("\n", n-23), " ", " ", "", " ", "", "\n"}
		p := api.Prog{Mods: []api.Mod{{ID: id(1), Name: "m", Defs: ids(100, 1)}}, Defs: []api.Def{d}}
		switch {
		case n <= 8192:
			if s := sourced(t, p, id(1)); len(print.Module(s)) != n {
				t.Errorf("P8.4: the text has %d bytes, not %d", len(print.Module(s)), n)
			}
		case n <= 8192+9:
			sourceless(t, p, id(1), api.ErrLimit)
		default: // the layout is not usable any more
			if s := sourced(t, p, id(1)); len(print.Module(s)) != 23 {
				t.Errorf("P8.4: the text has %d bytes", len(print.Module(s)))
			}
		}
	}
	// The head, the usual text of a definition, and several of them
	for _, name := range []string{"N", "Name"} {
		one := len("rec  ()\n") + len(name)
		for n := 0; n < 1200; n++ {
			if size := 9 + n*one; n > 3 && (size < 8150 || size > 8250) {
				continue
			}
			p := api.Prog{Mods: []api.Mod{{ID: id(1), Name: "m", Defs: slices.Repeat(ids(100, 1), n)}}, Defs: []api.Def{{ID: id(100), Kind: api.KRec, Name: name}}}
			if 9+n*one <= 8192 {
				sourced(t, p, id(1))
			} else {
				sourceless(t, p, id(1), api.ErrLimit)
			}
		}
	}
	for n := 1360; n < 1370; n++ { // each use has 6 bytes
		p := api.Prog{Mods: []api.Mod{{ID: id(1), Name: "m", Uses: slices.Repeat(ids(1, 1), n)}}}
		if 9+6*n <= 8192 {
			sourced(t, p, id(1))
		} else {
			sourceless(t, p, id(1), api.ErrLimit)
		}
	}
	p := api.Prog{Mods: []api.Mod{{ID: id(1), Name: "if", Defs: ids(100, 1)}}, Defs: []api.Def{{ID: id(100), Kind: api.KRec, Name: "N", Slots: slices.Repeat(slots(1, "x"), 10000)}}}
	sourceless(t, p, id(1), api.ErrName)
	p.Mods[0].Name = "m"
	sourceless(t, p, id(1), api.ErrLimit)
}

func TestSourceShares(t *testing.T) {
	p := world()
	text := "test n (a List(P) 1, b Int 2) List(Bool) = let x = List(List(Int)) [1] in fold u, v = x over a do match S (P {y = u, x = v}) {B p -> p, A q -> g(q, 1)}\n"
	f := read(t, text)
	d, _, _ := scope.Bind(p, id(modM), f, ids(100, 50))
	p.Mods[0].Defs = append(p.Mods[0].Defs, id(100), id(100))
	p = with(p, d)
	call := func(mod bool) func([]any) any {
		return func(l []any) any {
			var result any
			var e api.Errno
			if mod {
				result, e = scope.Source(l[0].(api.Prog), id(modM))
			} else {
				result, e = scope.Unbind(l[0].(api.Prog), id(100))
			}
			if e != api.OK {
				t.Fatalf("P8.3: there is the error %d", e)
			}
			return result
		}
	}
	apart(t, "P8.3", []any{p}, call(false))
	apart(t, "P8.4", []any{p}, call(true))
	p.Defs[len(p.Defs)-1].Layout = f.Layout
	if got := unbound(t, world(), p.Defs[len(p.Defs)-1]); len(got.Layout) != 0 {
		t.Errorf("P8.3: the layout of the form in another order is %q", got.Layout)
	}
	g, _ := scope.Unbind(p, id(100))
	g.Layout = nil
	p.Defs[len(p.Defs)-1].Layout = append(append([]string{"# x\n"}, slices.Repeat([]string{" "}, len(syntax.Tokens(g))-1)...), "\n")
	apart(t, "P8.3", []any{p}, call(false))
	apart(t, "P8.4", []any{p}, call(true))
}
