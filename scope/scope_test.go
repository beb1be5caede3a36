package scope_test

import (
	"math"
	"slices"
	"strconv"
	"strings"
	"testing"

	"splicery/api"
	"splicery/print"
	"splicery/scope"
	"splicery/syntax"
)

// The functions of the package have these types.
var (
	_ func(api.Prog, api.ID, string) []api.ID                                 = scope.Find
	_ func(p api.Prog, mod, id api.ID) string                                 = scope.Name
	_ func(api.Prog, api.ID, syntax.Form, []api.ID) (api.Def, int, api.Errno) = scope.Bind
	_ func(api.Prog, api.ID) (syntax.Form, api.Errno)                         = scope.Unbind
	_ func(api.Prog, api.ID) (syntax.Source, api.Errno)                       = scope.Source
)

type (
	form = syntax.Form
	term = syntax.Term
	word = syntax.Word
)

// id returns the ID with an index.
func id(n int) api.ID { return api.ID{Shop: 1, Seq: 2, Index: n} }

// ids returns a number of IDs from an index on.
func ids(from, n int) []api.ID {
	var l []api.ID
	for i := range n {
		l = append(l, id(from+i))
	}
	return l
}

func of(n int) api.Type { return api.Type{Kind: api.TDef, Def: id(n)} }

func listOf(t api.Type) api.Type { return api.Type{Kind: api.TList, Kids: []api.Type{t}} }

var (
	whole = api.Type{}
	truth = api.Type{Kind: api.TBool}
)

// slots returns slots with these names, the types Int, and IDs from an index on.
func slots(from int, names ...string) []api.Slot {
	var l []api.Slot
	for i, s := range names {
		l = append(l, api.Slot{ID: id(from + i), Name: s, Place: i})
	}
	return l
}

// The IDs of the modules and definitions of world.
const (
	modM, modK, modJ                       = 1, 2, 3
	recP, caseS, funF, convC, testT, onO   = 10, 11, 12, 13, 14, 15
	recKP, caseT, funG, recQ, caseE, funKF = 20, 21, 22, 23, 24, 25
	funH                                   = 30
)

// world has the module m, which uses k, and j, which is not used. m has the definitions P, S, f, c, t and o, k has P, T, g, Q, E and f, and j has h.
func world() api.Prog {
	v := func(n, ref int) api.Expr { return api.Expr{ID: id(n), Kind: api.NVar, Ref: id(ref)} }
	return api.Prog{
		Mods: []api.Mod{
			{ID: id(modM), Name: "m", Uses: ids(modK, 1), Defs: ids(recP, 6)},
			{ID: id(modK), Name: "k", Defs: ids(recKP, 6)},
			{ID: id(modJ), Name: "j", Defs: ids(funH, 1)},
		},
		Defs: []api.Def{
			{ID: id(recP), Kind: api.KRec, Mod: id(modM), Name: "P", Slots: []api.Slot{{ID: id(40), Name: "x"}, {ID: id(41), Name: "y", Type: truth, Place: 7}}},
			{ID: id(caseS), Kind: api.KCase, Mod: id(modM), Name: "S", Place: 1, Slots: []api.Slot{{ID: id(42), Name: "A"}, {ID: id(43), Name: "B", Type: of(recP), Place: 1}}},
			{ID: id(funF), Kind: api.KFun, Mod: id(modM), Name: "f", Slots: slots(44, "a"), Body: v(70, 44)},
			{ID: id(convC), Kind: api.KConv, Mod: id(modM), Name: "c", Slots: []api.Slot{{ID: id(45), Name: "p", Type: of(recP)}}, Result: of(recP), Body: v(71, 45)},
			{ID: id(testT), Kind: api.KTest, Mod: id(modM), Name: "t", Slots: []api.Slot{{ID: id(46), Name: "a", Most: 3}}, Body: v(72, 46)},
			{ID: id(onO), Kind: api.KOn, Mod: id(modM), Name: "o", Slots: slots(47, "s", "e"), Body: v(73, 48)},
			{ID: id(recKP), Kind: api.KRec, Mod: id(modK), Name: "P", Slots: slots(49, "z")},
			{ID: id(caseT), Kind: api.KCase, Mod: id(modK), Name: "T", Slots: slots(50, "C", "D", "F")},
			{ID: id(funG), Kind: api.KFun, Mod: id(modK), Name: "g", Slots: slots(53, "a", "b"), Body: v(74, 54)},
			{ID: id(recQ), Kind: api.KRec, Mod: id(modK), Name: "Q"},
			{ID: id(caseE), Kind: api.KCase, Mod: id(modK), Name: "E"},
			{ID: id(funKF), Kind: api.KFun, Mod: id(modK), Name: "f", Body: api.Expr{ID: id(75), N: 1}},
			{ID: id(funH), Kind: api.KFun, Mod: id(modJ), Name: "h", Body: api.Expr{ID: id(76), N: 2}},
		},
	}
}

// with returns a program with further definitions.
func with(p api.Prog, defs ...api.Def) api.Prog {
	p.Defs = slices.Concat(p.Defs, defs)
	return p
}

// read returns the form that is written in a text.
func read(t *testing.T, text string) form {
	t.Helper()
	s, at := syntax.Parse("module m " + text)
	if at != -1 || len(s.Defs) != 1 {
		t.Fatalf("%q is not read: %d", text, at)
	}
	return s.Defs[0]
}

// written returns the text of a form, without its layout.
func written(f form) string {
	f.Layout = nil
	return strings.TrimSpace(print.Def(f))
}

// unwrapped returns the indices of IDs.
func unwrapped(l []api.ID) string {
	var s []string
	for _, x := range l {
		if x != id(x.Index) {
			return "another ID"
		}
		s = append(s, strconv.Itoa(x.Index))
	}
	return strings.Join(s, " ")
}

func TestExamples(t *testing.T) {
	p := api.Prog{
		Mods: []api.Mod{{ID: id(1), Name: "m", Uses: ids(2, 1)}, {ID: id(2), Name: "k"}},
		Defs: []api.Def{{ID: id(3), Kind: api.KFun, Mod: id(1), Name: "f"}, {ID: id(4), Kind: api.KFun, Mod: id(2), Name: "f"}, {ID: id(5), Kind: api.KFun, Mod: id(2), Name: "g"}},
	}
	for _, x := range []struct{ name, want string }{{"f", "3"}, {"g", "5"}, {"k.f", "4"}, {"m.f", "3"}, {"k.h", ""}} {
		if got := unwrapped(scope.Find(p, id(1), x.name)); got != x.want {
			t.Errorf("P8.1: Find of %s is %s, not %s", x.name, got, x.want)
		}
	}
	if got := scope.Name(p, id(1), id(4)); got != "k.f" {
		t.Errorf("P8.1: the name of the f of k is %q", got)
	}
	if got := scope.Name(p, id(1), id(5)); got != "g" {
		t.Errorf("P8.1: the name of g is %q", got)
	}
	sum := api.Expr{ID: id(9), Kind: api.NOp, Kids: []api.Expr{{ID: id(7), Kind: api.NVar, Ref: id(20)}, {ID: id(8), Kind: api.NVar, Ref: id(10)}}}
	let := api.Expr{ID: id(10), Kind: api.NLet, Names: []string{"a"}, Kids: []api.Expr{{ID: id(6), N: 1}, sum}}
	f, e := scope.Unbind(with(p, api.Def{ID: id(30), Kind: api.KFun, Name: "h", Slots: slots(20, "a"), Body: let}), id(30))
	if got := written(f); e != api.OK || got != "fun h (a Int) Int = let a1 = 1 in a + a1" {
		t.Errorf("P8.3: the form of let a = 1 in a + a is %q, %d", got, e)
	}
}

// named returns a definition with an ID, a module and a name.
func named(n, mod int, name string) api.Def {
	return api.Def{ID: id(n), Kind: api.KFun, Mod: id(mod), Name: name}
}

func TestFind(t *testing.T) {
	mod := func(n int, name string, uses ...int) api.Mod {
		m := api.Mod{ID: id(n), Name: name, Defs: ids(90, 5)}
		for _, u := range uses {
			m.Uses = append(m.Uses, id(u))
		}
		return m
	}
	p := api.Prog{
		Mods: []api.Mod{
			mod(1, "m", 3, 2), mod(2, "k", 1), mod(3, "k"), mod(4, "self", 4, 4, 5, 5), mod(5, "j", 6), mod(6, "m"),
			mod(1, "other", 6), mod(7, "none", 77, 2, 78), mod(8, "", 9), mod(9, "a.b"), mod(10, "b"), mod(11, "a", 10, 9),
		},
		Defs: []api.Def{
			named(30, 3, "g"), named(20, 2, "g"), named(21, 2, "f"), named(10, 1, "f"), named(11, 1, "twice"), named(12, 1, "twice"), named(22, 2, "twice"),
			named(31, 3, "h"), named(23, 2, "g"), named(40, 4, "f"), named(41, 4, "a.b"), named(50, 5, "f"), named(51, 5, "g"), named(60, 6, "f"), named(61, 6, "deep"),
			named(70, 77, "lost"), named(71, 99, "f"), named(72, 2, ""), named(80, 8, ""), named(81, 8, ".f"), named(90, 9, "c"), named(91, 9, ""), named(92, 9, "b.c"),
			named(100, 10, "c"), named(111, 11, "b.c"), named(112, 11, "."), named(113, 11, "f."),
			named(120, 2, "again"), named(120, 2, "again"), named(121, 3, "again"), named(120, 3, "further"),
		},
	}
	for _, x := range []struct {
		mod        int
		name, want string
	}{
		// Names without a point: the module itself, and the others only if it has none.
		{1, "f", "10"}, {1, "g", "20 23 30"}, {1, "h", "31"}, {1, "twice", "11 12"}, {2, "twice", "22"}, {3, "twice", ""}, {3, "g", "30"}, {2, "h", ""},
		{1, "none", ""}, {1, "F", ""}, {1, "f ", ""}, {1, "m", ""}, {1, "deep", ""}, {5, "deep", "61"}, {2, "", "72"}, {1, "", "72"}, {3, "", ""},
		// Names with a point
		{1, "m.f", "10"}, {1, "k.f", "21"}, {1, "k.g", "20 23 30"}, {1, "k.h", "31"}, {1, "k.twice", "22"}, {1, "j.f", ""}, {1, "k.none", ""}, {2, "m.f", "10"}, {2, "k.h", ""}, {3, "m.f", ""},
		{1, "other.f", ""}, {1, "m.deep", ""}, {1, "k.", "72"}, {1, ".f", ""}, {1, ".", ""}, {1, "k..", ""}, {1, "m.k.f", ""}, {1, "k.k.g", ""},
		// A module that uses itself, and others twice
		{4, "f", "40"}, {4, "self.f", "40"}, {4, "j.f", "50"}, {4, "g", "51"}, {4, "j.g", "51"}, {4, "self.a.b", "41"}, {4, "a.b", ""},
		// Two modules with an ID: the first one counts. Two with a name: both
		{1, "m.twice", "11 12"}, {5, "m.f", "60"}, {5, "f", "50"}, {6, "m.f", "60"},
		// Modules that do not exist are not seen.
		{7, "lost", ""}, {7, ".lost", ""}, {7, "g", "20 23"}, {7, "f", "21"}, {77, "lost", ""}, {99, "f", ""}, {99, ".f", ""}, {0, "f", ""},
		// Names that are none
		{8, "", "80"}, {8, ".", "80"}, {8, "..f", "81"}, {8, ".f", ""}, {8, "a.b.c", ""}, {9, "c", "90"}, {9, "a.b.c", ""}, {9, "", "91"}, {9, "a.", ""},
		{11, "a.b.c", "111"}, {11, "b.c", "100"}, {11, "a.c", ""}, {11, "a..", "112"}, {11, "a.f.", "113"}, {11, "f.", ""}, {11, "c", "90 100"}, {11, ".", ""},
		// Definitions that share an ID
		{2, "again", "120"}, {3, "again", "121"}, {1, "again", "120 121"}, {3, "further", "120"},
	} {
		if got := unwrapped(scope.Find(p, id(x.mod), x.name)); got != x.want {
			t.Errorf("P8.1: Find of %q in the module %d is %s, not %s", x.name, x.mod, got, x.want)
		}
	}
}

// TestFindOrder has IDs that differ in each part.
func TestFindOrder(t *testing.T) {
	want := []api.ID{{Shop: math.MinInt}, {Shop: -1, Seq: 5, Index: 5}, {Seq: math.MinInt, Index: 9}, {Seq: -1}, {Index: -3}, {}, {Index: 1}, {Index: 10}, {Seq: 1}, {Seq: 2, Index: -1}, {Seq: 10}, {Shop: 1}, {Shop: 2, Seq: -1, Index: -1}, {Shop: math.MaxInt}}
	p := api.Prog{Mods: []api.Mod{{ID: id(1), Name: "m"}}}
	for _, n := range []int{5, 3, 0, 13, 7, 1, 12, 2, 8, 11, 4, 10, 9, 6, 3, 13} {
		p.Defs = append(p.Defs, api.Def{ID: want[n], Mod: id(1), Name: "f"})
	}
	for _, name := range []string{"f", "m.f"} {
		if got := scope.Find(p, id(1), name); !slices.Equal(got, want) {
			t.Errorf("P8.1: Find of %s is %v", name, got)
		}
	}
}

func TestName(t *testing.T) {
	p := world()
	p.Mods[0].Uses = append(p.Mods[0].Uses, id(4), id(5), id(99), id(8))
	p.Mods = append(p.Mods, api.Mod{ID: id(4), Name: "l"}, api.Mod{ID: id(5), Name: "l"}, api.Mod{ID: id(6), Name: "m", Uses: ids(modM, 1)}, api.Mod{ID: id(7), Name: "n", Uses: ids(modM, 1)}, api.Mod{ID: id(8), Name: "a.b"})
	p = with(p,
		named(31, 4, "f"), named(32, 5, "f"), named(33, 4, "u"), named(34, 5, "v"), named(35, 5, "v"), named(36, 6, "P"), named(37, 6, "w"), named(38, 7, "f"), named(39, 7, "q"),
		named(80, modM, "d"), named(81, modM, "d"), named(82, modM, "k.f"), named(83, 99, "lost"), named(84, modM, ""), named(85, 8, "c"), named(94, 8, "e"), named(86, 8, "f"), named(87, modM, "k.P"), named(88, modM, "Int"), named(89, modK, "Int"),
		named(90, modK, "d"), named(91, modM, "same"), named(91, modK, "same"), named(92, modM, "first"), named(92, modM, "second"), named(93, modM, "second"),
	)
	for _, x := range []struct {
		mod, def int
		want     string
	}{
		{modM, recP, "P"}, {modM, recKP, "k.P"}, {modM, funF, "f"}, {modM, funKF, "k.f"}, {modM, funG, "g"}, {modM, funH, ""}, {modM, caseT, "T"},
		{modK, recKP, "P"}, {modK, recP, ""}, {modK, funF, ""}, {modJ, funH, "h"}, {modJ, funF, ""},
		// Two modules with a name
		{modM, 31, ""}, {modM, 32, ""}, {modM, 33, "u"}, {modM, 34, ""}, {modM, 35, ""}, {6, 36, "P"}, {6, 37, "w"}, {6, recP, ""}, {6, funF, "f"}, {7, funF, "m.f"}, {7, 38, "f"}, {7, 39, "q"}, {7, recP, "P"},
		// Two definitions with a name
		{modM, 80, ""}, {modM, 81, ""}, {modM, 90, "k.d"}, {modK, 90, "d"},
		// Names with points, and without a byte; names need not be possible
		{modM, 82, "m.k.f"}, {modM, 87, "m.k.P"}, {modM, 84, ""}, {modM, 85, ""}, {8, 85, "c"}, {modM, 94, "e"}, {modM, 86, ""}, {8, 86, "f"}, {modM, 88, "Int"}, {modM, 89, "k.Int"},
		// Definitions that stand in no module, modules and definitions that do not exist
		{modM, 83, ""}, {99, 83, ""}, {99, funF, ""}, {modM, 79, ""}, {99, 79, ""}, {0, 0, ""},
		// Definitions that share an ID
		{modM, 91, "same"}, {modM, 92, "first"}, {modM, 93, ""},
	} {
		got := scope.Name(p, id(x.mod), id(x.def))
		if got != x.want {
			t.Errorf("P8.1: the name of %d in the module %d is %q, not %q", x.def, x.mod, got, x.want)
		}
		if found := scope.Find(p, id(x.mod), got); got != "" && !slices.Equal(found, ids(x.def, 1)) {
			t.Errorf("P8.5: Find of %q in the module %d is %v", got, x.mod, found)
		}
	}
	if got := scope.Name(api.Prog{}, api.ID{}, api.ID{}); got != "" {
		t.Errorf("P8.1: a name in the empty program is %q", got)
	}
	if got := scope.Find(api.Prog{}, api.ID{}, ""); len(got) > 0 {
		t.Errorf("P8.1: what is found in the empty program is %v", got)
	}
}
