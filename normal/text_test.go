package normal_test

import (
	"slices"
	"strings"
	"testing"

	"splicery/api"
	"splicery/check"
	"splicery/eval"
	"splicery/normal"
	"splicery/print"
	"splicery/scope"
	"splicery/syntax"
	"splicery/value"
)

// text is a module with definitions of all kinds.
const text = `module m
rec Tank (level Int, open Bool)
case Event (Tick Int, Fill Int, Valve Bool)
rec Next (tank Tank, signals List(Int), wait Int)
fun top () Int = 10
fun fill (t Tank, by Int) Tank = let sum = Tank:level[t] + by in Tank{level = if sum < top() then sum else top(), open = Tank:open[t]}
fun twice (a Int) Int = let b = a + 0 in let c = 1 * b in c + b
fun both (a Bool, b Bool) Bool = if not not a then b and true else false or b
fun held (e Event) Int = match Event(Event:Fill(7 - 3)) {Tick n -> n, Fill n -> n * Tank:level[Tank{level = 1, open = true}], Valve b -> 0}
fun waits (e Event) Int = match Event(Event:Fill(held(e))) {Tick n -> n, Fill n -> n + n, Valve b -> 0}
fun all (l List(Int)) Int = fold n, sum = 0 over l do sum + n
on step (t Tank, e Event) Next = match Event(e) {Tick n -> Next{tank = t, signals = List(Int)[n], wait = 0 + 0}, Fill n -> Next{tank = fill(t, n), signals = List(Int)[] join List(Int)[1, n], wait = all(List(Int)[n, 2])}, Valve b -> Next{tank = Tank{level = Tank:level[t], open = b}, signals = List(Int)[], wait = 1}}
test full (a Int 20, b Bool 1) Bool = Tank:level[fill(Tank{level = a, open = b}, 3)] == top() or not b and a / 2 < 3
conv wider (t Tank) Event = Event:Valve(not not Tank:open[fill(t, 0)])
`

// forms are the bodies of some of the definitions, with their normal forms in the place of them.
var forms = [][2]string{
	{"top", "10"},
	{"twice", "a + a"},
	{"both", "b"},
	{"held", "4"},
	{"waits", "let n = held (e) in n + n"},
	{"all", "fold n, sum = 0 over l do n + sum"},
	{"wider", "Event : Valve (Tank : open [fill (t, 0)])"},
}

// program returns the definitions of a text, with IDs from 1000 on.
func program(t *testing.T, text string) api.Prog {
	t.Helper()
	s, at := syntax.Parse(text)
	if at != -1 {
		t.Fatalf("the text is not read: %d", at)
	}
	p := api.Prog{Mods: []api.Mod{{ID: id(1), Name: s.Name}}}
	for i, x := range s.Defs { // first what the names stand for
		d := api.Def{ID: id(1000 + 100*i), Kind: x.Kind, Mod: id(1), Name: x.Name}
		for _, x := range x.Slots {
			d.Slots = append(d.Slots, api.Slot{Name: x.Name})
		}
		p.Defs = append(p.Defs, d)
		p.Mods[0].Defs = append(p.Mods[0].Defs, d.ID)
	}
	var defs []api.Def
	for i, x := range s.Defs {
		var next []api.ID
		for n := range 100 {
			next = append(next, id(1000+100*i+n))
		}
		d, _, code := scope.Bind(p, id(1), x, next)
		if code != api.OK {
			t.Fatalf("%s is not bound: %d", x.Name, code)
		}
		d.Place = i
		defs = append(defs, d)
	}
	p.Defs = defs
	sound(t, p)
	return p
}

func namedDef(p api.Prog, name string) api.Def {
	return p.Defs[slices.IndexFunc(p.Defs, func(d api.Def) bool { return d.Name == name })]
}

// TestText checks normal forms of a program that is written with names, as texts.
func TestText(t *testing.T) {
	p := program(t, text)
	q := normalized(p)
	sound(t, q)
	for _, x := range forms {
		form, code := scope.Unbind(q, namedDef(q, x[0]).ID)
		_, got, _ := strings.Cut(print.Def(form), " = ")
		if got = strings.TrimSpace(got); code != api.OK || got != x[1] {
			t.Errorf("P14.1: the normal form of %s is %q (error %d), not %q", x[0], got, code, x[1])
		}
	}
	for _, d := range p.Defs {
		a, e := normal.Meaning(p, d.ID)
		if b, _ := normal.Meaning(q, d.ID); a != b || e != api.OK {
			t.Errorf("P14.6: the meaning of %s is %x (error %d), with normal forms %x", d.Name, a, e, b)
		}
		if bodyByRule(d) && !normal.Same(p, d.Body, q, namedDef(q, d.Name).Body) {
			t.Errorf("P14.6: the body of %s and its normal form are not the same", d.Name)
		}
	}
	tank := api.Value{Kind: api.VRec, Kids: []api.Value{{N: 3}, {Kind: api.VBool, N: 1}}}
	event := api.Value{Kind: api.VCase, N: 1, Kids: []api.Value{{N: 9}}}
	for name, args := range map[string][]api.Value{"top": nil, "fill": {tank, {N: 4}}, "twice": {{N: -7}}, "both": {{Kind: api.VBool}, {Kind: api.VBool, N: 1}}, "held": {event}, "waits": {event}, "all": {{Kind: api.VList, Kids: []api.Value{{N: 4}, {N: 5}}}}, "step": {tank, event}, "full": {{N: 7}, {Kind: api.VBool}}, "wider": {tank}} {
		want, steps, code := eval.Call(p, namedDef(p, name).ID, args, api.MaxFuel)
		got, fewer, e := eval.Call(q, namedDef(p, name).ID, args, api.MaxFuel)
		if code != api.OK || e != api.OK || value.Compare(got, want) != 0 || fewer > steps {
			t.Errorf("P14.5: %s is %+v after %d steps (error %d), with normal forms %+v after %d (error %d)", name, want, steps, code, got, fewer, e)
		}
	}
}

// TestRenamed writes the text with other names, in another order of modules and with another layout.
func TestRenamed(t *testing.T) {
	p := program(t, text)
	other := strings.NewReplacer("Tank", "Tub", "level", "high", "sum", "s2", "Fill", "Add", "fill", "pour", "Event", "Happens", "both", "pair", "top()", "peak()", "fun top", "# the greatest\nfun peak", " + ", "  +  ", "module m", "module other", "(t ", "(it ", "[t]", "[it]", "(t,", "(it,", "= t,", "= it,").Replace(text)
	q := program(t, other)
	if len(check.All(q)) > 0 || len(q.Defs) != len(p.Defs) {
		t.Fatal("the text with other names is another program")
	}
	q.Mods[0].Uses = ids(3)
	changed := 0
	for i, d := range p.Defs {
		if d.Name != q.Defs[i].Name {
			changed++
		}
		a, e := normal.Meaning(p, d.ID)
		b, f := normal.Meaning(q, q.Defs[i].ID)
		if a != b || e != api.OK || f != api.OK {
			t.Errorf("P14.7: the meaning of %s is %x (error %d), and that of %s %x (error %d)", d.Name, a, e, q.Defs[i].Name, b, f)
		}
	}
	if changed < 5 {
		t.Errorf("only %d definitions have other names", changed)
	}
}

// TestCones has the cones of some definitions of the text.
func TestCones(t *testing.T) {
	p := program(t, text)
	for name, want := range map[string]string{"top": "top", "Tank": "Tank", "fill": "Tank fill top", "twice": "twice", "held": "Event Tank held", "waits": "Event Tank held waits", "step": "Event Next Tank all fill step top", "full": "Tank fill full top", "wider": "Event Tank fill top wider"} {
		var got []string
		for _, id := range normal.Cone(p, namedDef(p, name).ID) {
			d, _ := value.Def(p, id)
			got = append(got, d.Name)
		}
		slices.Sort(got)
		if strings.Join(got, " ") != want {
			t.Errorf("P14.4: the cone of %s is %v, not %s", name, got, want)
		}
	}
}
