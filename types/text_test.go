package types_test

import (
	"testing"

	"splicery/api"
	"splicery/scope"
	"splicery/syntax"
	"splicery/types"
)

// text is a module with definitions of all kinds, and nodes of all kinds in their bodies.
const text = `module m
rec Point (x Int, y Int)
rec Path (points List(Point), closed Bool)
case Shape (Dot Point, Line Path, None Bool)
case Event (Tick Int, Add Shape)
rec After (shapes List(Shape), signals List(Int), wait Int)
fun move (p Point, by Int) Point = Point{x = Point:x[p] + by, y = Point:y[p] - by}
fun moved (l List(Point), by Int) List(Point) = fold p, all = List(Point)[] over l do all join List(Point)[move(p, by)]
fun count (s Shape) Int = match Shape(s) {Dot d -> if Point:x[d] < 0 then -1 else 1, Line l -> len Path:points[l], None b -> 0}
fun ends (l List(Point)) Bool = let n = len l in let few = n < 2 in not few and n % 2 == 0 or n / 3 * 2 == 4
fun lists () List(List(Bool)) = List(List(Bool))[List(Bool)[true, ends(List(Point)[])], List(Bool)[]]
on step (s List(Shape), e Event) After = match Event(e) {Tick n -> After{shapes = s, signals = List(Int)[n], wait = 0}, Add x -> After{shapes = s join List(Shape)[x], signals = List(Int)[], wait = count(x)}}
test dots (a Int 3, b Bool 1) Int = count(if b then Shape:Dot(move(Point{x = a, y = a}, a)) else Shape:None(b))
conv old (l List(Int)) Path = Path{points = fold n, all = List(Point)[] over l do all join List(Point)[Point{x = n, y = n}], closed = fold n, all = true over l do all and n == 1}
`

// program returns the definitions of the text, with IDs from 1000 on.
func program(t *testing.T) api.Prog {
	t.Helper()
	s, at := syntax.Parse(text)
	if at != -1 {
		t.Fatalf("the text is not read: %d", at)
	}
	p := api.Prog{Mods: []api.Mod{{ID: id(1), Name: s.Name}}}
	for i, f := range s.Defs { // first what the names stand for
		d := api.Def{ID: id(1000 + 100*i), Kind: f.Kind, Mod: id(1), Name: f.Name}
		for _, x := range f.Slots {
			d.Slots = append(d.Slots, api.Slot{Name: x.Name})
		}
		p.Defs = append(p.Defs, d)
	}
	var defs []api.Def
	for i, f := range s.Defs {
		var next []api.ID
		for n := range 100 {
			next = append(next, id(1000+100*i+n))
		}
		d, _, code := scope.Bind(p, id(1), f, next)
		if code != api.OK {
			t.Fatalf("%s is not bound: %d", f.Name, code)
		}
		defs = append(defs, d)
	}
	p.Defs = defs
	return p
}

// TestText checks P9.5 and P9.6 for a program that is written with names.
func TestText(t *testing.T) {
	p := program(t)
	kinds := map[int]bool{}
	for _, d := range p.Defs {
		if d.Kind < api.KFun {
			continue
		}
		l := bound(d.Slots)
		if n, code := types.Fits(p, l, d.Body, d.Result); n != (api.ID{}) || code != api.OK {
			t.Errorf("P9.5: the body of %s does not fit: %d at %v", d.Name, code, n)
		}
		for _, path := range pathsByRule(d.Body) {
			e := nodeAt(d.Body, path)
			kinds[e.Kind] = true
			around, _, ok := types.Inside(p, l, d.Body, e.ID)
			if _, n, code := types.Infer(p, around, e); !ok || code != api.OK {
				t.Errorf("P9.3: in %s the node at %v has no type: %d at %v", d.Name, path, code, n)
			}
			body := changed(d.Body, path, func(x *api.Expr) { *x = let(1, yes(2), e) })
			if n, code := types.Fits(p, l, body, d.Result); code != api.OK {
				t.Errorf("P9.6: in %s an expression of the same type at %v does not fit: %d at %v", d.Name, path, code, n)
			}
		}
		for _, x := range types.Free(d.Body) {
			if x.ID.Index <= d.ID.Index || x.ID.Index > d.ID.Index+len(d.Slots) || x.N != 0 {
				t.Errorf("P9.4: in %s the variable %v is free, which is no slot", d.Name, x)
			}
		}
	}
	for kind := range api.NFold + 1 {
		if !kinds[kind] {
			t.Errorf("there is no node of the kind %d", kind)
		}
	}
}
