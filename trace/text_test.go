package trace_test

import (
	"slices"
	"strings"
	"testing"

	"splicery/api"
	"splicery/check"
	"splicery/scope"
	"splicery/syntax"
	"splicery/trace"
)

// text is a module with definitions of all kinds, and nodes of all kinds in their bodies.
const text = `module m
rec Tank (level Int, open Bool)
case Event (Tick Int, Fill Int, Valve Bool)
rec Next (tank Tank, signals List(Int), wait Int)
case Shape (Dot Int, Box Tank, Row List(Tank))
fun top () Int = 10
fun fill (t Tank, by Int) Tank = let sum = Tank:level[t] + by in Tank{level = if sum < top() then sum else top(), open = Tank:open[t]}
fun all (l List(Int)) Int = fold n, sum = 0 over l do sum + n
fun gcd (a Int, b Int) Int = Tank:level[fold n, t = Tank{level = a, open = false} over List(Int)[b, b - 1, b - 2, b - 3, b - 4, b - 5, b - 6, b - 7] do if Tank:open[t] or n < 1 or not (a % n == 0 and b % n == 0) then t else Tank{level = n, open = true}]
fun weight (s Shape) Int = match Shape(s) {Dot n -> n, Box t -> Tank:level[t], Row l -> fold t, sum = len l over l do sum + weightof(t)}
fun weightof (t Tank) Int = Tank:level[t] * (if Tank:open[t] then 1 else 2)
on step (t Tank, e Event) Next = match Event(e) {Tick n -> Next{tank = t, signals = List(Int)[n], wait = 0}, Fill n -> Next{tank = fill(t, n), signals = List(Int)[] join List(Int)[1, n], wait = all(List(Int)[n, 2])}, Valve b -> Next{tank = Tank{level = Tank:level[t], open = b}, signals = List(Int)[], wait = 1}}
test full (a Int 20, b Bool 1) Bool = Tank:level[fill(Tank{level = a, open = b}, 3)] == top() or not b and a / 2 < 3 and true
conv wider (t Tank) Shape = Shape:Box(fill(t, 0))
conv lists (l List(Tank)) List(Int) = fold t, sum = List(Int)[] over l do sum join List(Int)[Tank:level[t]]
`

// program returns the definitions of the text, with IDs from 1000 on.
func program(t *testing.T) api.Prog {
	t.Helper()
	s, at := syntax.Parse(text)
	if at != -1 {
		t.Fatalf("the text is not read: %d", at)
	}
	p := api.Prog{Mods: []api.Mod{{ID: id(1), Name: s.Name}}}
	for i, f := range s.Defs { // first what the names stand for
		d := api.Def{ID: id(1000 + 100*i), Kind: f.Kind, Mod: id(1), Name: f.Name}
		for _, x := range f.Slots {
			d.Slots = append(d.Slots, api.Slot{Name: x.Name})
		}
		p.Defs = append(p.Defs, d)
	}
	var defs []api.Def
	for i, f := range s.Defs {
		defs = append(defs, bind(t, p, f, 1000+100*i))
	}
	p.Defs = defs
	if l := check.All(p); len(l) > 0 {
		t.Fatalf("the program is not sound: %+v", l)
	}
	return p
}

// bind returns the definition of a form, with IDs from a number on.
func bind(t *testing.T, p api.Prog, f syntax.Form, from int) api.Def {
	t.Helper()
	var next []api.ID
	for n := range 100 {
		next = append(next, id(from+n))
	}
	d, _, code := scope.Bind(p, id(1), f, next)
	if code != api.OK {
		t.Fatalf("%s is not bound: %d", f.Name, code)
	}
	return d
}

func named(p api.Prog, name string) api.Def {
	return p.Defs[slices.IndexFunc(p.Defs, func(d api.Def) bool { return d.Name == name })]
}

// textCall is a call of a definition of the text, with the names of the definitions that it asks.
type textCall struct {
	name string
	args []api.Value
	asks string
}

func textCalls() []textCall {
	tank := func(level int, open bool) api.Value { return record(number(level), boolean(open)) }
	return []textCall{
		{"top", nil, "top"},
		{"fill", args(tank(3, true), number(4)), "fill Tank top"},
		{"fill", args(tank(3, false), number(7)), "fill Tank top"},
		{"all", args(numbers()), "all"},
		{"all", args(numbers(1, 2, 3, -10)), "all"},
		{"gcd", args(number(12), number(8)), "gcd"},
		{"weight", args(variant(0, number(-3))), "weight Shape Tank"},
		{"weight", args(variant(1, tank(4, false))), "weight Shape Tank"},
		{"weight", args(variant(2, values())), "weight Shape Tank"},
		{"weight", args(variant(2, values(tank(4, false), tank(5, true)))), "weight Shape Tank weightof"},
		{"weightof", args(tank(4, false)), "weightof Tank"},
		{"step", args(tank(4, true), variant(0, number(9))), "step Tank Event"},
		{"step", args(tank(4, true), variant(1, number(9))), "step Tank Event fill top all"},
		{"step", args(tank(4, true), variant(2, boolean(false))), "step Tank Event"},
		{"full", args(number(7), boolean(true)), "full fill top"},
		{"wider", args(tank(11, true)), "wider Tank fill top"},
		{"lists", args(values()), "lists Tank"},
		{"lists", args(values(tank(1, true), tank(2, true))), "lists Tank"},
	}
}

// TestText calls the definitions of a program that is written with names, and changes each of its definitions.
func TestText(t *testing.T) {
	p := program(t)
	for _, x := range textCalls() {
		d := named(p, x.name)
		var want []api.ID
		for _, name := range strings.Fields(x.asks) {
			want = append(want, named(p, name).ID)
		}
		v, tr, code := trace.Call(p, d.ID, x.args, plenty)
		rule, ruleTrace, steps, _ := callByRule(p, d.ID, x.args, plenty)
		if !equal(v, rule) || code != api.OK || !same(tr, ruleTrace) || !slices.Equal(tr.Defs, sorted(want)) || len(tr.Nodes) > steps {
			t.Errorf("P12.1: a call of %s is %+v (error %d) and asks %v, not %+v and %v", x.name, v, code, tr, rule, ruleTrace)
		}
		for i, d := range p.Defs {
			q := changedBy(p, func(q *api.Prog) {
				if bodyByRule(d) {
					q.Defs[i].Body.N++ // the root is evaluated, if anything of the body is
				} else {
					q.Defs[i].Slots[0].Type = truth
				}
			})
			changed := trace.Changed(p, q)
			if asks := trace.Asks(tr, changed); len(changed) != 1 || asks != slices.Contains(strings.Fields(x.asks), d.Name) {
				t.Errorf("P12.3: a call of %s with %+v asks what changes of %s: %v", x.name, x.args, d.Name, asks)
			}
		}
	}
}

// TestBranches changes both branches of a function of the text: only the one that a call takes matters.
func TestBranches(t *testing.T) {
	p := program(t)
	fill := slices.IndexFunc(p.Defs, func(d api.Def) bool { return d.Name == "fill" })
	branch := func(q *api.Prog, n int) *api.Expr { return &q.Defs[fill].Body.Kids[1].Kids[0].Kids[n] } // of if sum < top() then sum else top()
	if e := nodeAt(&p.Defs[fill].Body, []int{1, 0}); e.Kind != api.NIf {
		t.Fatalf("%+v is no condition", e)
	}
	tank := record(number(3), boolean(true))
	for by, taken := range map[int]int{4: 1, 6: 1, 7: 2, 9: 2} {
		v, tr, code := trace.Call(p, p.Defs[fill].ID, args(tank, number(by)), plenty)
		if code != api.OK {
			t.Fatalf("the call fails with %d", code)
		}
		for n := 1; n <= 2; n++ {
			q := changedBy(p, func(q *api.Prog) { id := branch(q, n).ID; *branch(q, n) = num(100); branch(q, n).ID = id })
			asks := trace.Asks(tr, trace.Changed(p, q))
			other, otherTrace, _ := trace.Call(q, p.Defs[fill].ID, args(tank, number(by)), plenty)
			if asks != (n == taken) || asks == equal(v, other) || !asks && !same(tr, otherTrace) {
				t.Errorf("P12.5: a call for %d asks the branch %d: %v, %+v, %+v", by, n, asks, v, other)
			}
		}
	}
	renamed := changedBy(p, func(q *api.Prog) {
		for i := range q.Defs {
			q.Defs[i].Name, q.Defs[i].Layout, q.Defs[i].Place, q.Defs[i].Mod = "x", nil, 7, id(2)
		}
		q.Mods = nil
	})
	changes(t, "a renaming", p, renamed)
}
