package equiv_test

import (
	"slices"
	"strings"
	"testing"

	"splicery/api"
	"splicery/scope"
	"splicery/syntax"
)

// text is a module with tests.
const text = `module m
rec Tank (level Int, open Bool)
case Event (Tick Int, Fill Int, Valve Bool)
fun top () Int = 2
fun fill (t Tank, by Int) Tank = let sum = Tank:level[t] + by in Tank{level = if sum < top() then sum else top(), open = Tank:open[t]}
fun held (e Event) Int = match Event(e) {Tick n -> 0, Fill n -> n, Valve b -> if b then 1 else 0}
fun sum (l List(Int)) Int = fold n, s = 0 over l do s + n
test full (a Int 3, b Bool 0) Int = Tank:level[fill(Tank{level = a, open = b}, 1)]
test event (e Event 2) Int = held(e) * held(e)
test several (l List(Int) 2) Int = sum(l)
`

// program returns the definitions of a text, with IDs from 1000 on.
func program(t *testing.T, text string) api.Prog {
	t.Helper()
	s, at := syntax.Parse(text)
	if at != -1 {
		t.Fatalf("the text is not read: %d", at)
	}
	p := api.Prog{Mods: []api.Mod{{ID: id(1), Name: s.Name}}}
	for i, x := range s.Defs { // first what the names stand for
		d := api.Def{ID: id(1000 + 100*i), Kind: x.Kind, Mod: id(1), Name: x.Name}
		for _, x := range x.Slots {
			d.Slots = append(d.Slots, api.Slot{Name: x.Name})
		}
		p.Defs = append(p.Defs, d)
		p.Mods[0].Defs = append(p.Mods[0].Defs, d.ID)
	}
	var defs []api.Def
	for i, x := range s.Defs {
		var next []api.ID
		for n := range 100 {
			next = append(next, id(1000+100*i+n))
		}
		d, _, code := scope.Bind(p, id(1), x, next)
		if code != api.OK {
			t.Fatalf("%s is not bound: %d", x.Name, code)
		}
		d.Place = i
		defs = append(defs, d)
	}
	p.Defs = defs
	sound(t, p)
	return p
}

func namedDef(p api.Prog, name string) api.Def {
	return p.Defs[slices.IndexFunc(p.Defs, func(d api.Def) bool { return d.Name == name })]
}

// comparison returns the definitions with a name in the text and in one in which some words are replaced.
func comparison(t *testing.T, name string, words ...string) two {
	t.Helper()
	other := strings.NewReplacer(words...).Replace(text)
	if len(words) > 0 && other == text {
		t.Fatalf("the text has none of %q", words)
	}
	p, q := program(t, text), program(t, other)
	at := slices.IndexFunc(p.Defs, func(d api.Def) bool { return d.Name == name })
	return two{p, p.Defs[at].ID, q, q.Defs[at].ID, api.MaxFuel}
}

// TestText compares tests of a program that is written with names with those of changed ones.
func TestText(t *testing.T) {
	for _, x := range []struct {
		name   string
		words  []string
		normal bool
		want   []api.Value // the input on which they differ, if they do
	}{
		{"full", nil, true, nil},
		{"full", []string{"sum", "total", "level", "height", "Tank", "Tub", "fill", "pour", "full", "brim"}, true, nil},
		{"full", []string{"= 2", "= 1 + 1"}, true, nil},
		{"full", []string{"if sum < top() then sum else top()", "if top() < sum then top() else sum"}, false, nil},
		{"full", []string{"= 2", "= 3"}, false, []api.Value{number(2), fact(0)}},
		{"full", []string{"= 2", "= 4"}, false, []api.Value{number(2), fact(0)}},
		{"full", []string{"= 2", "= -2"}, false, []api.Value{number(0), fact(0)}},
		{"full", []string{"a Int 3", "a Int 0"}, true, nil},
		{"full", []string{"b}, 1)", "not b}, 1)"}, false, nil},
		{"full", []string{"Tank{level = a, open = b}", "Tank{level = if b and a == -2 then 0 else a, open = b}"}, false, []api.Value{number(-2), fact(1)}},
		{"full", []string{"held (e", "holds (e", "held(e)", "holds(e)"}, true, nil},
		{"event", []string{"Valve b -> if b then 1 else 0", "Valve b -> if not b then 0 else 1"}, false, nil},
		{"event", []string{"Fill n -> n", "Fill n -> 0 - n"}, false, nil},
		{"event", []string{"Fill n -> n", "Fill n -> if n == -1 then n else n * n"}, false, []api.Value{kase(1, number(-2))}},
		{"event", []string{"held(e) * held(e)", "let h = held(e) in h * h"}, false, nil},
		{"event", []string{"Tick n -> 0", "Tick n -> n - n"}, false, nil},
		{"event", []string{"Tick n -> 0", "Tick n -> n * 0"}, false, nil},
		{"event", []string{"Tick n -> 0", "Tick n -> let zero = 0 in zero"}, true, nil},
		{"several", []string{"do s + n", "do n + s"}, true, nil},
		{"several", []string{"do s + n", "do if n == 2 then s else s + n"}, false, []api.Value{several(number(2))}},
		{"several", []string{"do s + n", "do if s == 2 then s else s + n"}, false, []api.Value{several(number(2), number(-1))}},
		{"several", []string{"s = 0 over l do s + n", "s = 0 over l join l do s + n", "= sum(l)", "= sum(l) / 2"}, false, nil},
	} {
		y := comparison(t, x.name, x.words...)
		what := x.name + " with " + strings.Join(x.words, ", ")
		if x.want != nil {
			y.differs(t, what, x.want...)
			y.back().differs(t, what+", back", x.want...)
			continue
		}
		proof := y.equal(t, what, x.normal)
		y.back().equal(t, what+", back", x.normal)
		if !rightByRule(y, proof, nil) {
			t.Errorf("P15.2: %s: Differ returns the proof %+v", what, proof)
		}
	}
	y := comparison(t, "full", "level Int, open Bool", "level Int, open Bool, more Bool", "open = b", "open = b, more = b", "open = Tank:open[t]", "open = true, more = true")
	y.equal(t, "another type that the test does not lead to", false)
	z := comparison(t, "fill", "level Int, open Bool", "level Int, open Bool, more Bool", "open = b", "open = b, more = b", "open = Tank:open[t]", "open = true, more = true")
	z.fails(t, "another type that the function leads to", api.ErrType)
	if _, _, e := comparison(t, "several", "List(Int) 2", "List(Int) 63").back().differ(); e != api.ErrLimit {
		t.Errorf("P15.1: too many lists: the error %d", e)
	}
}
