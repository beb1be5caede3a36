package check_test

import (
	"slices"
	"testing"

	"splicery/api"
	"splicery/check"
	"splicery/scope"
	"splicery/syntax"
)

// text is a module with definitions of all kinds, and nodes of all kinds in their bodies.
const text = `module m
rec Tank (level Int, open Bool)
case Event (Tick Int, Fill Int, Valve Bool)
rec Next (tank Tank, signals List(Int), wait Int)
case Load (None Bool, Some Tank, Many List(Load))
fun top () Int = 10
fun fill (t Tank, by Int) Tank = let sum = Tank:level[t] + by in Tank{level = if sum < top() then sum else top(), open = Tank:open[t]}
fun all (l List(Int)) Int = fold n, sum = 0 over l do sum + n
fun weight (l Load) Int = match Load(l) {None b -> 0, Some t -> Tank:level[t], Many m -> fold x, sum = len m over m do sum + weight(x)}
on step (t Tank, e Event) Next = match Event(e) {Tick n -> Next{tank = t, signals = List(Int)[n], wait = 0}, Fill n -> Next{tank = fill(t, n), signals = List(Int)[] join List(Int)[1, n], wait = all(List(Int)[n, 2])}, Valve b -> Next{tank = Tank{level = Tank:level[t], open = b}, signals = List(Int)[], wait = 1}}
test full (a Int 20, b Bool 1) Bool = Tank:level[fill(Tank{level = a, open = b}, 3)] == top() or not b and a / 2 < 3 and true
test loads (a Int 64, b Bool 0) Int = weight(Load:Many(List(Load)[Load:None(b), Load:Some(Tank{level = a, open = b})]))
conv wider (t Tank) Load = Load:Some(fill(t, 0))
conv lists (l List(Tank)) List(Int) = fold t, sum = List(Int)[] over l do sum join List(Int)[Tank:level[t]]
`

// program returns the definitions of the text, with IDs from 1000 on.
func program(t *testing.T) api.Prog {
	t.Helper()
	s, at := syntax.Parse(text)
	if at != -1 {
		t.Fatalf("the text is not read: %d", at)
	}
	p := api.Prog{Mods: []api.Mod{{ID: id(1), Name: s.Name}}}
	for i, f := range s.Defs { // first what the names stand for
		d := api.Def{ID: id(1000 + 100*i), Kind: f.Kind, Mod: id(1), Name: f.Name}
		for _, x := range f.Slots {
			d.Slots = append(d.Slots, api.Slot{Name: x.Name})
		}
		p.Defs = append(p.Defs, d)
	}
	var defs []api.Def
	for i, f := range s.Defs {
		var next []api.ID
		for n := range 100 {
			next = append(next, id(1000+100*i+n))
		}
		d, _, code := scope.Bind(p, id(1), f, next)
		if code != api.OK {
			t.Fatalf("%s is not bound: %d", f.Name, code)
		}
		defs = append(defs, d)
		p.Mods[0].Defs = append(p.Mods[0].Defs, d.ID)
	}
	p.Defs = defs
	return p
}

// named returns the definition of a program with a name.
func named(p api.Prog, name string) *api.Def {
	return &p.Defs[slices.IndexFunc(p.Defs, func(d api.Def) bool { return d.Name == name })]
}

// TestText changes a program that is written with names.
func TestText(t *testing.T) {
	p := program(t)
	kinds := map[int]bool{}
	for _, d := range p.Defs {
		if code, on := check.Def(p, d.ID); code != api.OK || on != (api.ID{}) {
			t.Errorf("P10.1: %s has the error %d on %v", d.Name, code, on)
		}
		for _, e := range bodyOf(d) {
			kinds[e.Kind] = true
		}
	}
	if l := check.All(p); len(l) > 0 || len(kinds) != api.NFold+1 {
		t.Errorf("P10.2: All returns %+v for a sound program with %d kinds of nodes", l, len(kinds))
	}
	for name, want := range map[string][]string{ // who names a definition, and itself
		"Tank": {"Tank", "Next", "Load", "fill", "weight", "step", "full", "loads", "wider", "lists"}, "Event": {"Event", "step"}, "Next": {"Next", "step"},
		"Load": {"Load", "weight", "loads", "wider"}, "top": {"top", "fill", "full"}, "fill": {"fill", "step", "full", "wider"}, "all": {"all", "step"}, "weight": {"weight", "loads"},
		"step": {"step"}, "full": {"full"}, "loads": {"loads"}, "wider": {"wider"}, "lists": {"lists"},
	} {
		q := program(t)
		d := named(q, name)
		d.Slots = append(d.Slots, api.Slot{ID: id(5000), Name: "z"})
		var l []int
		for _, other := range want {
			l = append(l, named(q, other).ID.Index)
		}
		slices.Sort(l)
		affects(t, "one more slot of "+name, p, q, l...)
		affects(t, "one slot less of "+name, q, p, l...)
		d.Slots = d.Slots[:len(d.Slots)-1]
		affects(t, "the same slots of "+name, p, q)
		q.Defs = slices.DeleteFunc(q.Defs, func(d api.Def) bool { return d.Name == name })
		affects(t, "a program without "+name, p, q, slices.DeleteFunc(slices.Clone(l), func(n int) bool { return n == named(p, name).ID.Index })...)
		affects(t, "a program that has "+name+" again", q, p, l...)
	}
}

// TestRenamed writes a definition with other names and reads it again: all stays as it is, but for the IDs, which are others.
func TestRenamed(t *testing.T) {
	p := program(t)
	q := program(t)
	for i := range q.Defs {
		for j := range q.Defs[i].Slots {
			q.Defs[i].Slots[j].Name = "v" + string(rune('a'+j))
		}
		q.Defs[i].Name = "w" + string(rune('a'+i))
		if q.Defs[i].Kind <= api.KCase {
			q.Defs[i].Name = "W" + string(rune('a'+i))
		}
		q.Defs[i].Place = -i
	}
	affects(t, "other names and places", p, q)
	for i := range q.Defs {
		f, code := scope.Unbind(q, q.Defs[i].ID)
		if code != api.OK {
			t.Fatalf("there is no form of %s: %d", q.Defs[i].Name, code)
		}
		f.Layout = nil
		var next []api.ID
		for n := range 100 {
			next = append(next, id(1000+100*i+n))
		}
		d, _, code := scope.Bind(q, id(1), f, next)
		if code != api.OK {
			t.Fatalf("the form of %s is not bound: %d", q.Defs[i].Name, code)
		}
		q.Defs[i] = d
	}
	affects(t, "definitions that are written with other names and read again", p, q)
	if l := check.All(q); len(l) > 0 {
		t.Errorf("P10.7: with other names All returns %+v", l)
	}
}
