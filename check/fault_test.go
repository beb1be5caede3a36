package check_test

import (
	"math"
	"slices"
	"testing"

	"splicery/api"
)

// flaw is one of the errors of a definition, in the order of the chapter.
type flaw struct {
	name  string
	kinds []int // of the definitions that can have it
	code  api.Errno
	on    func(d api.Def) api.ID
	make  func(d *api.Def)
}

func itself(d api.Def) api.ID { return d.ID }

var (
	allKinds  = []int{api.KRec, api.KCase, api.KFun, api.KOn, api.KTest, api.KConv}
	withBody  = []int{api.KFun, api.KOn, api.KTest, api.KConv}
	noKinds   = []int{-1, api.KConv + 1, api.KConv + 2, math.MinInt, math.MaxInt}
	noTypes   = []api.Type{of(none), of(funF), of(onO), of(testT), of(convC), {Kind: -1}, {Kind: 4}, {Kind: api.TList}, {Def: id(recP)}, {Kind: api.TBool, Kids: []api.Type{whole}}, {Kind: api.TDef, Def: id(recP), Kids: []api.Type{whole}}, {Kind: api.TList, Def: id(recP), Kids: []api.Type{whole}}, {Kind: api.TList, Kids: []api.Type{whole, whole}}, listOf(of(none)), {Kind: api.TDef}, levelsOf(whole, 24)}
	someTypes = []api.Type{whole, truth, of(recP), of(caseE), listOf(whole), listOf(listOf(of(recR))), levelsOf(truth, 23)}
)

// levelsOf returns a list of lists of a type.
func levelsOf(t api.Type, levels int) api.Type {
	for range levels {
		t = listOf(t)
	}
	return t
}

// last returns the last slot of a definition.
func last(d api.Def) *api.Slot { return &d.Slots[len(d.Slots)-1] }

// flaws has the errors in their order. Each can be made behind those that stand in front of it, but for a type of a slot where there are no slots.
func flaws() []flaw {
	more := func(d *api.Def) { d.Slots = append(d.Slots, api.Slot{ID: id(9000), Type: of(recP)}) }
	return []flaw{
		{"another kind", allKinds, api.ErrArg, itself, func(d *api.Def) { d.Kind = api.KConv + 1 }},
		{"the type of a slot", allKinds, api.ErrDead, func(d api.Def) api.ID { return last(d).ID }, func(d *api.Def) { last(*d).Type = of(none) }},
		{"no slots", []int{api.KRec, api.KCase}, api.ErrNeed, itself, func(d *api.Def) { d.Slots = nil }},
		{"the bound of an input", []int{api.KTest}, api.ErrRange, func(d api.Def) api.ID { return d.Slots[0].ID }, func(d *api.Def) { d.Slots[0].Most = 65 }},
		{"the result", withBody, api.ErrDead, itself, func(d *api.Def) { d.Result = of(none) }},
		{"the slots of a converter", []int{api.KConv}, api.ErrArg, itself, more},
		{"the slots of a handler", []int{api.KOn}, api.ErrArg, itself, more},
		{"the body", withBody, api.ErrType, func(d api.Def) api.ID { return d.Body.ID }, func(d *api.Def) { d.Body = wrong(9100) }},
	}
}

// TestFlaws gives a definition of each kind each set of the errors that it can have: the first one counts.
func TestFlaws(t *testing.T) {
	all := flaws()
	seen := map[[2]string]bool{} // an error and another one behind it
	for _, d := range world().Defs {
		var possible []flaw
		for _, f := range all {
			if slices.Contains(f.kinds, d.Kind) {
				possible = append(possible, f)
			}
		}
		for set := 1; set < 1<<len(possible); set++ {
			var chosen []flaw
			for i, f := range possible {
				if set>>i&1 == 1 {
					chosen = append(chosen, f)
				}
			}
			x := get(d.ID.Index)
			names := ""
			for _, f := range slices.Backward(chosen) { // slots are taken away and added before one of them is changed
				if names += ", " + f.name; len(x.Slots) > 0 || f.name != "the type of a slot" {
					f.make(&x)
				} else {
					chosen = slices.DeleteFunc(slices.Clone(chosen), func(g flaw) bool { return g.name == f.name })
				}
			}
			has(t, "a definition with other parts"+names, with(x), x.ID.Index, chosen[0].code, chosen[0].on(x).Index)
			for i := range chosen {
				for _, f := range chosen[i:] {
					seen[[2]string{chosen[i].name, f.name}] = true
				}
			}
		}
	}
	for i, a := range all {
		for j, b := range all[i:] {
			both := slices.ContainsFunc(a.kinds, func(kind int) bool { return slices.Contains(b.kinds, kind) })
			if both && !(i == 1 && j == 1) && !seen[[2]string{a.name, b.name}] {
				t.Errorf("there is no definition with %s and %s", a.name, b.name)
			}
		}
	}
}

// TestKinds has kinds that do not exist, with all else right or wrong.
func TestKinds(t *testing.T) {
	for _, kind := range noKinds {
		for _, d := range world().Defs {
			d.Kind = kind
			has(t, "a kind that does not exist", with(d), d.ID.Index, api.ErrArg, d.ID.Index)
			has(t, "a kind that does not exist, alone", prog(d), d.ID.Index, api.ErrArg, d.ID.Index)
			d.Slots, d.Result, d.Body = nil, of(none), wrong(9100)
			has(t, "a kind that does not exist, with nothing right", with(d), d.ID.Index, api.ErrArg, d.ID.Index)
		}
	}
	has(t, "the zero definition", prog(api.Def{ID: id(1)}), 1, api.ErrNeed, 1)
}

// TestSlotTypes has types that are not valid in one, several or no slots of each kind of definition.
func TestSlotTypes(t *testing.T) {
	for _, kind := range allKinds {
		for _, bad := range noTypes {
			for _, x := range []struct {
				l    []api.Type
				slot int
			}{
				{[]api.Type{bad}, 1}, {[]api.Type{bad, whole}, 1}, {[]api.Type{whole, bad}, 2}, {[]api.Type{bad, bad}, 1},
				{[]api.Type{whole, truth, bad, of(none), bad, whole}, 3}, {[]api.Type{of(none), bad}, 1}, {append(slices.Clone(someTypes), bad, of(recP)), len(someTypes) + 1},
			} {
				has(t, "a type of a slot that is not valid", with(def(8, kind, whole, num(850), x.l...)), 8, api.ErrDead, 800+x.slot)
			}
		}
	}
	for _, good := range someTypes {
		for _, kind := range []int{api.KRec, api.KCase, api.KFun, api.KTest, api.KConv} {
			has(t, "a type of a slot that is valid", with(def(8, kind, whole, num(850), good)), 8, api.OK, 0)
		}
	}
	for _, kind := range []int{api.KRec, api.KCase} {
		has(t, "a type of itself", with(def(8, kind, whole, api.Expr{}, of(8), listOf(of(8)))), 8, api.OK, 0)
	}
	has(t, "a function as a type of itself", with(def(8, api.KFun, whole, num(850), of(8))), 8, api.ErrDead, 801)
}

// TestData has records and variants with and without slots, whose Result, body and bounds do not count.
func TestData(t *testing.T) {
	for _, kind := range []int{api.KRec, api.KCase} {
		for _, result := range append(slices.Clone(noTypes), someTypes...) {
			for _, body := range []api.Expr{{}, num(850), wrong(850), v(850, none), call(850, none)} {
				has(t, "no slots", with(def(8, kind, result, body)), 8, api.ErrNeed, 8)
				d := def(8, kind, result, body, whole, of(recP))
				has(t, "some slots", with(d), 8, api.OK, 0)
				d.Slots[0].Most, d.Slots[1].Most = -1, 65
				has(t, "some slots with bounds", with(d), 8, api.OK, 0)
			}
		}
	}
	// A slot has the ID of another one, or of the definition.
	d := def(8, api.KRec, whole, api.Expr{}, whole, whole)
	d.Slots[0].ID, d.Slots[1].ID = id(8), id(8)
	has(t, "slots with one ID", with(d), 8, api.OK, 0)
}

// TestMost has bounds of inputs in and out of range, in tests and elsewhere.
func TestMost(t *testing.T) {
	for _, most := range []int{-1, 65, 66, 1 << 40, math.MinInt, math.MaxInt, 64 + 1<<32} {
		for _, kind := range withBody {
			d := def(8, kind, whole, num(850), whole, truth, whole)
			switch kind {
			case api.KConv:
				d.Slots = d.Slots[:1]
			case api.KOn:
				d = get(onO)
			}
			for i := range d.Slots {
				x := d
				x.Slots = slices.Clone(d.Slots)
				x.Slots[i].Most = most
				if kind != api.KTest {
					has(t, "a bound out of range, where it does not count", with(x), x.ID.Index, api.OK, 0)
					continue
				}
				has(t, "a bound out of range", with(x), 8, api.ErrRange, 801+i)
				for j := range x.Slots[i+1:] {
					x.Slots[i+1+j].Most = -1
				}
				has(t, "a bound out of range, and others behind it", with(x), 8, api.ErrRange, 801+i)
				x.Slots[2].Type = of(none)
				has(t, "a type that is not valid, behind a bound out of range", with(x), 8, api.ErrDead, 803)
			}
		}
	}
	for most := range 65 {
		d := def(8, api.KTest, whole, num(850), whole, truth)
		d.Slots[0].Most, d.Slots[1].Most = most, 64-most
		has(t, "a bound in range", with(d), 8, api.OK, 0)
	}
	has(t, "a test without inputs", with(def(8, api.KTest, whole, num(850))), 8, api.OK, 0)
}

// TestResults has results that are not valid, in front of slots and bodies that are wrong.
func TestResults(t *testing.T) {
	for _, bad := range noTypes {
		for _, kind := range withBody {
			for _, body := range []api.Expr{num(850), wrong(850), v(850, 801)} {
				has(t, "a result that is not valid", with(def(8, kind, bad, body, whole)), 8, api.ErrDead, 8)
				has(t, "a result that is not valid, without slots", with(def(8, kind, bad, body)), 8, api.ErrDead, 8)
			}
		}
	}
	for _, good := range someTypes {
		has(t, "a result that is valid", with(def(8, api.KFun, good, v(850, 801), good)), 8, api.OK, 0)
	}
}

func TestConverters(t *testing.T) {
	body := num(850)
	has(t, "a converter without slots", with(def(8, api.KConv, whole, body)), 8, api.ErrArg, 8)
	has(t, "a converter with a slot", with(def(8, api.KConv, whole, body, truth)), 8, api.OK, 0)
	has(t, "a converter with two slots", with(def(8, api.KConv, whole, body, truth, whole)), 8, api.ErrArg, 8)
	has(t, "a converter with six slots", with(def(8, api.KConv, whole, body, truth, whole, whole, whole, whole, whole)), 8, api.ErrArg, 8)
	for n := range 4 {
		for _, kind := range []int{api.KFun, api.KTest} {
			has(t, "another number of slots", with(def(8, kind, whole, body, slices.Repeat([]api.Type{truth}, n)...)), 8, api.OK, 0)
		}
	}
}

// handler has the parts of a handler: the types of the cases of its events, of the record that it makes, and of its slots.
type handler struct {
	events, makes []api.Type
	slots         []api.Type
	result        api.Type
	body          api.Expr
}

// The variant 21 and the record 22 are those of the handler 20.
func (h handler) prog() api.Prog {
	p := world()
	p.Defs = append(p.Defs, def(20, api.KOn, h.result, h.body, h.slots...), def(21, api.KCase, whole, api.Expr{}, h.events...), def(22, api.KRec, whole, api.Expr{}, h.makes...))
	return p
}

// handlerOf is a handler with a state of a type.
func handlerOf(state api.Type) handler {
	return handler{[]api.Type{whole, truth}, []api.Type{state, listOf(whole), whole}, []api.Type{state, of(21)}, of(22), node(2050, api.NRec, 0, 22, v(2051, 2001), list(2052, whole), num(2053))}
}

// TestHandlers has handlers with all parts right, and with each of them wrong alone.
func TestHandlers(t *testing.T) {
	for _, state := range append(slices.Clone(someTypes), of(21), of(22)) {
		h := handlerOf(state)
		has(t, "a handler", h.prog(), 20, api.OK, 0)
		h.events = []api.Type{whole}
		has(t, "a handler with one event", h.prog(), 20, api.OK, 0)
		h.events = []api.Type{whole, whole, of(21), of(none)}
		has(t, "a handler with further events, one of them of a type that is not valid", h.prog(), 20, api.OK, 0)
	}
	fails := func(what string, change func(h *handler)) {
		t.Helper()
		for _, body := range []api.Expr{wrong(2050), handlerOf(whole).body} {
			h := handlerOf(of(recP))
			h.body = body
			change(&h)
			has(t, what, h.prog(), 20, api.ErrArg, 20)
		}
	}
	fails("no slots", func(h *handler) { h.slots = nil })
	fails("one slot", func(h *handler) { h.slots = h.slots[:1] })
	fails("three slots", func(h *handler) { h.slots = append(h.slots, of(21)) })
	fails("state and event in another order", func(h *handler) { h.slots[0], h.slots[1] = h.slots[1], h.slots[0] })
	for _, x := range []api.Type{whole, truth, listOf(of(21)), listOf(whole), of(22), of(recP)} {
		fails("events that are no variant", func(h *handler) { h.slots[1] = x })
	}
	fails("events without cases", func(h *handler) { h.events = nil })
	for _, x := range []api.Type{truth, listOf(whole), of(21), of(recP), of(none), {Def: id(1)}, {Kids: []api.Type{whole}}, {Kind: -1}} {
		fails("a first event that is no number", func(h *handler) { h.events[0] = x })
		fails("a first event that is no number, and a second one that is", func(h *handler) { h.events = []api.Type{x, whole} })
	}
	for _, x := range []api.Type{whole, truth, listOf(of(22)), of(21), of(caseE), of(recP)} {
		fails("a result that is no such record", func(h *handler) { h.result = x })
	}
	for n := range 6 {
		if n != 3 {
			fails("a record with another number of slots", func(h *handler) { h.makes = append(h.makes, whole, whole, whole)[:n] })
		}
	}
	for _, x := range []api.Type{whole, truth, of(recR), of(21), listOf(of(recP)), of(none), {Kind: api.TDef, Def: id(recP), Kids: []api.Type{whole}}} {
		fails("a record with another state", func(h *handler) { h.makes[0] = x })
		fails("a handler with another state", func(h *handler) {
			if h.slots[0] = x; slices.ContainsFunc(noTypes, func(y api.Type) bool { return sameType(x, y) }) {
				h.slots[0] = truth
			}
		})
	}
	for _, x := range []api.Type{whole, listOf(truth), listOf(listOf(whole)), of(recP), {Kind: api.TList}, {Kind: api.TList, Kids: []api.Type{whole, whole}}, {Kind: api.TList, Def: id(1), Kids: []api.Type{whole}}, listOf(api.Type{Def: id(1)})} {
		fails("a record with other signals", func(h *handler) { h.makes[1] = x })
	}
	for _, x := range []api.Type{truth, listOf(whole), of(recP), of(none), {Def: id(1)}, {Kids: []api.Type{whole}}} {
		fails("a record with another time", func(h *handler) { h.makes[2] = x })
	}
	for _, kind := range []int{api.KFun, api.KTest} {
		p := handlerOf(whole).prog()
		p.Defs[len(world().Defs)].Kind = kind
		p.Defs[len(world().Defs)+1].Slots = nil
		has(t, "what is no handler, with other events", p, 20, api.OK, 0)
	}
	p := handlerOf(whole).prog()
	p.Defs = p.Defs[:len(p.Defs)-1]
	has(t, "a handler without its record", p, 20, api.ErrDead, 20)
}

// TestZeroID has a handler where the types of the zero ID stand for what it asks for: they do not, as they are no TDef.
func TestZeroID(t *testing.T) {
	p := handlerOf(whole).prog()
	h := &p.Defs[len(world().Defs)]
	p.Defs[len(p.Defs)-2].ID, h.Slots[1].Type = api.ID{}, api.Type{Kind: api.TDef}
	has(t, "events with the zero ID", p, 20, api.OK, 0)
	h.Slots[1].Type = whole
	has(t, "events of the type of the numbers", p, 20, api.ErrArg, 20)
	p = handlerOf(whole).prog()
	h = &p.Defs[len(world().Defs)]
	p.Defs[len(p.Defs)-1].ID, h.Result, h.Body.Ref = api.ID{}, api.Type{Kind: api.TDef}, api.ID{}
	has(t, "a record with the zero ID", p, 20, api.OK, 0)
	h.Result = whole
	has(t, "a result of the type of the numbers", p, 20, api.ErrArg, 20)
}

// sameType reports whether two types are equal.
func sameType(a, b api.Type) bool {
	return a.Kind == b.Kind && a.Def == b.Def && slices.EqualFunc(a.Kids, b.Kids, sameType)
}

// TestBodies has bodies that do not fit, with the ID of the node.
func TestBodies(t *testing.T) {
	for what, x := range map[string]struct {
		result api.Type
		body   api.Expr
		code   api.Errno
		on     int
	}{
		"a number":                        {whole, num(850), api.OK, 0},
		"another type than the result":    {truth, num(850), api.ErrType, 850},
		"a slot":                          {of(recP), v(850, 802), api.OK, 0},
		"a slot of another type":          {of(recP), v(850, 801), api.ErrType, 850},
		"a slot with the name 1":          {of(recP), node(850, api.NVar, 1, 802), api.ErrDead, 850},
		"a slot with the name -1":         {of(recP), node(850, api.NVar, -1, 802), api.ErrDead, 850},
		"a slot of another definition":    {whole, v(850, 401), api.ErrDead, 850},
		"a slot that does not exist":      {whole, v(850, 803), api.ErrDead, 850},
		"the definition as a variable":    {whole, v(850, 8), api.ErrDead, 850},
		"a call":                          {whole, call(850, funF, v(851, 801), v(852, 802)), api.OK, 0},
		"a call with other types":         {whole, call(850, funF, v(851, 801), v(852, 801)), api.ErrType, 852},
		"a call with too few kids":        {whole, call(850, funF, v(851, 801)), api.ErrType, 850},
		"a call of a converter":           {listOf(of(recP)), call(850, convC, list(851, of(recP), v(852, 802))), api.OK, 0},
		"a call of a test":                {truth, call(850, testT, v(851, 801), yes(852)), api.ErrDead, 850},
		"a call of a handler":             {of(recR), call(850, onO, v(851, 802), v(852, 802)), api.ErrDead, 850},
		"a call of a record":              {of(recP), call(850, recP, v(851, 801), yes(852)), api.ErrDead, 850},
		"a call of nothing":               {whole, call(850, none), api.ErrDead, 850},
		"an operation with a wrong kid":   {whole, node(850, api.NOp, api.Add, 0, num(851), yes(852)), api.ErrType, 852},
		"a wrong kind of a node inside":   {whole, node(850, api.NOp, api.Add, 0, num(851), wrong(852)), api.ErrType, 852},
		"a record":                        {of(recP), node(850, api.NRec, 0, recP, num(851), yes(852)), api.OK, 0},
		"a field":                         {truth, node(850, api.NField, 1, recP, v(851, 802)), api.OK, 0},
		"a field that does not exist":     {truth, node(850, api.NField, 2, recP, v(851, 802)), api.ErrType, 850},
		"a case":                          {of(caseE), node(850, api.NCase, 1, caseE, v(851, 802)), api.OK, 0},
		"a match":                         {whole, node(850, api.NMatch, 0, caseE, node(851, api.NCase, 0, caseE, num(852)), v(853, 850), node(854, api.NField, 0, recP, node(855, api.NVar, 1, 850))), api.OK, 0},
		"a match with other types":        {whole, node(850, api.NMatch, 0, caseE, node(851, api.NCase, 0, caseE, num(852)), v(853, 850), node(855, api.NVar, 1, 850)), api.ErrType, 855},
		"a list":                          {listOf(of(recP)), list(850, of(recP), v(851, 802)), api.OK, 0},
		"a list of a type that is none":   {listOf(of(recP)), list(850, of(none)), api.ErrDead, 850},
		"a list of a function":            {listOf(of(recP)), list(850, of(funF)), api.ErrDead, 850},
		"a list of lists":                 {listOf(listOf(of(caseE))), list(850, listOf(of(caseE)), list(851, of(caseE))), api.OK, 0},
		"an empty body":                   {whole, api.Expr{}, api.OK, 0},
		"a let that hides a slot":         {truth, node(850, api.NLet, 0, 0, yes(851), v(852, 850)), api.OK, 0},
		"a let with the ID of a slot":     {truth, node(801, api.NLet, 0, 0, yes(851), v(852, 801)), api.OK, 0},
		"an error in front of a type":     {truth, node(850, api.NOp, api.Add, 0, num(851), v(852, none)), api.ErrDead, 852},
		"a fold":                          {whole, node(850, api.NFold, 0, 0, list(851, whole, num(852)), num(853), node(854, api.NOp, api.Add, 0, v(855, 850), node(856, api.NVar, 1, 850))), api.OK, 0},
		"a fold whose kids differ":        {whole, node(850, api.NFold, 0, 0, list(851, truth, yes(852)), num(853), v(855, 850)), api.ErrType, 855},
		"a condition that is no truth":    {whole, node(850, api.NIf, 0, 0, num(851), num(852), num(853)), api.ErrType, 851},
		"a node with the ID of the whole": {whole, node(8, api.NOp, api.Add, 0, num(851), yes(8)), api.ErrType, 8},
	} {
		for _, kind := range []int{api.KFun, api.KTest} {
			has(t, what, with(def(8, kind, x.result, x.body, whole, of(recP))), 8, x.code, x.on)
		}
	}
	again := call(850, 8, v(851, 801))
	has(t, "a function that calls itself", with(def(8, api.KFun, truth, again, whole)), 8, api.OK, 0)
	has(t, "a converter that calls itself", with(def(8, api.KConv, truth, again, whole)), 8, api.OK, 0)
	has(t, "a test that calls itself", with(def(8, api.KTest, truth, again, whole)), 8, api.ErrDead, 850)
	for _, kind := range []int{api.KRec, api.KCase} {
		has(t, "a body that does not count", with(def(8, kind, truth, v(850, none), whole)), 8, api.OK, 0)
	}
	has(t, "a converter that fits", with(def(8, api.KConv, of(recP), v(850, 801), of(recP))), 8, api.OK, 0)
	has(t, "a converter that does not fit", with(def(8, api.KConv, whole, v(850, 801), of(recP))), 8, api.ErrType, 850)
	h := handlerOf(whole)
	h.body = v(2050, 2001)
	has(t, "a handler that does not fit", h.prog(), 20, api.ErrType, 2050)
	// Of two slots with one ID the last one counts.
	d := def(8, api.KFun, truth, v(850, 801), whole, truth)
	d.Slots[1].ID = id(801)
	has(t, "two slots with one ID", with(d), 8, api.OK, 0)
	d.Result = whole
	has(t, "two slots with one ID, and the type of the first one", with(d), 8, api.ErrType, 850)
}
