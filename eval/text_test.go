package eval_test

import (
	"slices"
	"testing"

	"splicery/api"
	"splicery/check"
	"splicery/eval"
	"splicery/scope"
	"splicery/syntax"
)

// text is a module with definitions of all kinds, and nodes of all kinds in their bodies.
const text = `module m
rec Tank (level Int, open Bool)
case Event (Tick Int, Fill Int, Valve Bool)
rec Next (tank Tank, signals List(Int), wait Int)
case Shape (Dot Int, Box Tank, Row List(Tank))
fun top () Int = 10
fun fill (t Tank, by Int) Tank = let sum = Tank:level[t] + by in Tank{level = if sum < top() then sum else top(), open = Tank:open[t]}
fun all (l List(Int)) Int = fold n, sum = 0 over l do sum + n
fun gcd (a Int, b Int) Int = Tank:level[fold n, t = Tank{level = a, open = false} over List(Int)[b, b - 1, b - 2, b - 3, b - 4, b - 5, b - 6, b - 7] do if Tank:open[t] or n < 1 or not (a % n == 0 and b % n == 0) then t else Tank{level = n, open = true}]
fun weight (s Shape) Int = match Shape(s) {Dot n -> n, Box t -> Tank:level[t], Row l -> fold t, sum = len l over l do sum + weightof(t)}
fun weightof (t Tank) Int = Tank:level[t] * (if Tank:open[t] then 1 else 2)
on step (t Tank, e Event) Next = match Event(e) {Tick n -> Next{tank = t, signals = List(Int)[n], wait = 0}, Fill n -> Next{tank = fill(t, n), signals = List(Int)[] join List(Int)[1, n], wait = all(List(Int)[n, 2])}, Valve b -> Next{tank = Tank{level = Tank:level[t], open = b}, signals = List(Int)[], wait = 1}}
test full (a Int 20, b Bool 1) Bool = Tank:level[fill(Tank{level = a, open = b}, 3)] == top() or not b and a / 2 < 3 and true
conv wider (t Tank) Shape = Shape:Box(fill(t, 0))
conv lists (l List(Tank)) List(Int) = fold t, sum = List(Int)[] over l do sum join List(Int)[Tank:level[t]]
`

// program returns the definitions of the text, with IDs from 1000 on.
func program(t *testing.T) api.Prog {
	t.Helper()
	s, at := syntax.Parse(text)
	if at != -1 {
		t.Fatalf("the text is not read: %d", at)
	}
	p := api.Prog{Mods: []api.Mod{{ID: id(1), Name: s.Name}}}
	for i, f := range s.Defs { // first what the names stand for
		d := api.Def{ID: id(1000 + 100*i), Kind: f.Kind, Mod: id(1), Name: f.Name}
		for _, x := range f.Slots {
			d.Slots = append(d.Slots, api.Slot{Name: x.Name})
		}
		p.Defs = append(p.Defs, d)
	}
	var defs []api.Def
	for i, f := range s.Defs {
		defs = append(defs, bind(t, p, f, 1000+100*i))
	}
	p.Defs = defs
	if l := check.All(p); len(l) > 0 {
		t.Fatalf("the program is not sound: %+v", l)
	}
	return p
}

// bind returns the definition of a form, with IDs from a number on.
func bind(t *testing.T, p api.Prog, f syntax.Form, from int) api.Def {
	t.Helper()
	var next []api.ID
	for n := range 100 {
		next = append(next, id(from+n))
	}
	d, _, code := scope.Bind(p, id(1), f, next)
	if code != api.OK {
		t.Fatalf("%s is not bound: %d", f.Name, code)
	}
	return d
}

func named(p api.Prog, name string) api.Def {
	return p.Defs[slices.IndexFunc(p.Defs, func(d api.Def) bool { return d.Name == name })]
}

// runs are calls of the definitions of the text, with what they return.
func runs() []struct {
	name string
	args []api.Value
	want api.Value
} {
	type run = struct {
		name string
		args []api.Value
		want api.Value
	}
	tank := func(level int, open bool) api.Value { return record(number(level), boolean(open)) }
	args := func(l ...api.Value) []api.Value { return l }
	return []run{
		{"top", nil, number(10)},
		{"fill", args(tank(3, true), number(4)), tank(7, true)},
		{"fill", args(tank(3, false), number(7)), tank(10, false)},
		{"fill", args(tank(3, false), number(api.MaxInt)), tank(10, false)},
		{"fill", args(tank(-3, false), number(-api.MaxInt)), tank(-api.MaxInt, false)},
		{"all", args(numbers()), number(0)},
		{"all", args(numbers(5)), number(5)},
		{"all", args(numbers(1, 2, 3, -10)), number(-4)},
		{"gcd", args(number(12), number(8)), number(4)},
		{"gcd", args(number(7), number(5)), number(1)},
		{"weight", args(variant(0, number(-3))), number(-3)},
		{"weight", args(variant(1, tank(4, false))), number(4)},
		{"weight", args(variant(2, values())), number(0)},
		{"weight", args(variant(2, values(tank(4, false), tank(5, true)))), number(2 + 8 + 5)},
		{"step", args(tank(4, true), variant(0, number(9))), record(tank(4, true), numbers(9), number(0))},
		{"step", args(tank(4, true), variant(1, number(9))), record(tank(10, true), numbers(1, 9), number(11))},
		{"step", args(tank(4, true), variant(2, boolean(false))), record(tank(4, false), numbers(), number(1))},
		{"full", args(number(7), boolean(true)), boolean(true)},
		{"full", args(number(6), boolean(true)), boolean(false)},
		{"full", args(number(5), boolean(false)), boolean(true)},
		{"full", args(number(6), boolean(false)), boolean(false)},
		{"wider", args(tank(11, true)), variant(1, tank(10, true))},
		{"lists", args(values()), numbers()},
		{"lists", args(values(tank(1, true), tank(2, true))), numbers(1, 2)},
	}
}

// TestText calls the definitions of a program that is written with names.
func TestText(t *testing.T) {
	p := program(t)
	kinds := map[int]bool{}
	var visit func(e api.Expr)
	visit = func(e api.Expr) {
		kinds[e.Kind] = true
		for _, kid := range e.Kids {
			visit(kid)
		}
	}
	for _, d := range p.Defs {
		visit(d.Body)
	}
	if len(kinds) != api.NFold+1 {
		t.Errorf("the text has nodes of %d kinds only", len(kinds))
	}
	for _, x := range runs() {
		d := named(p, x.name)
		_, steps, code := callByRule(p, d.ID, x.args, plenty)
		if code != api.OK {
			t.Fatalf("%s fails by the rule: %d", x.name, code)
		}
		gives(t, "a call of "+x.name, calls(p, d.ID.Index, x.args...), x.want, steps)
		if n := eval.Most(p, d.ID); n != mostByRule(p, d.ID) || n >= 0 && steps > n {
			t.Errorf("P11.7: a call of %s has %d steps, at most %d", x.name, steps, n)
		}
	}
	for name, want := range map[string]int{"top": 1, "fill": 15, "all": -1, "gcd": -1, "weight": -1, "weightof": 7, "step": -1, "full": 35, "wider": 19, "lists": -1} {
		if n := eval.Most(p, named(p, name).ID); n != want {
			t.Errorf("P11.4: %s has the bound %d, not %d", name, n, want)
		}
	}
}

// TestRenamed writes the program with other names and reads it again: all values and steps stay (P11.8), although all IDs of nodes and slots are others.
func TestRenamed(t *testing.T) {
	p, q := program(t), program(t)
	for i := range q.Defs {
		d := &q.Defs[i]
		for j := range d.Slots {
			d.Slots[j].Name = "v" + string(rune('a'+j))
			if d.Kind == api.KCase {
				d.Slots[j].Name = "V" + string(rune('a'+j))
			}
		}
		d.Name = "w" + string(rune('a'+i))
		if d.Kind <= api.KCase {
			d.Name = "W" + string(rune('a'+i))
		}
		d.Place, d.Layout = -i, nil
	}
	other := api.Prog{Mods: q.Mods}
	for i, d := range q.Defs {
		f, code := scope.Unbind(q, d.ID)
		if code != api.OK {
			t.Fatalf("there is no form of %s: %d", d.Name, code)
		}
		d = bind(t, q, f, 5000+100*i)
		d.ID = q.Defs[i].ID
		other.Defs = append(other.Defs, d)
	}
	if l := check.All(other); len(l) > 0 {
		t.Fatalf("the program is not sound with other names: %+v", l)
	}
	for _, x := range runs() {
		d := named(p, x.name)
		_, steps, _ := callByRule(p, d.ID, x.args, plenty)
		gives(t, "a call of "+x.name+" with other names", calls(other, d.ID.Index, x.args...), x.want, steps)
		if n := eval.Most(other, d.ID); n != eval.Most(p, d.ID) {
			t.Errorf("P11.8: %s has another bound with other names: %d", x.name, n)
		}
	}
}
