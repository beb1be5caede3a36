package trace_test

import (
	"math"
	"math/rand"
	"slices"
	"testing"

	"splicery/api"
	"splicery/trace"
)

// near are IDs that are equal in two of Shop, Seq and Index, in increasing order.
func near() []api.ID {
	return []api.ID{
		{Shop: math.MinInt, Seq: 1, Index: 1}, {Shop: -1, Seq: 1, Index: 1},
		{Seq: 1, Index: 1},
		{Shop: 1, Seq: math.MinInt, Index: 1}, {Shop: 1, Seq: -1, Index: 1},
		{Shop: 1, Index: 1},
		{Shop: 1, Seq: 1, Index: math.MinInt}, {Shop: 1, Seq: 1, Index: -1}, {Shop: 1, Seq: 1}, {Shop: 1, Seq: 1, Index: 1}, {Shop: 1, Seq: 1, Index: 2}, {Shop: 1, Seq: 1, Index: math.MaxInt},
		{Shop: 1, Seq: 2, Index: 1}, {Shop: 1, Seq: math.MaxInt, Index: 1},
		{Shop: 2, Seq: 1, Index: 1}, {Shop: math.MaxInt, Seq: 1, Index: 1},
	}
}

func reversed(l []api.ID) []api.ID {
	l = slices.Clone(l)
	slices.Reverse(l)
	return l
}

// joinedByRule returns the elements of both lists: again and again, the least one that is behind the last one.
func joinedByRule(a, b []api.ID) []api.ID {
	var l []api.ID
	for {
		var next []api.ID
		for _, x := range slices.Concat(a, b) {
			if (len(l) == 0 || before(l[len(l)-1], x)) && (next == nil || before(x, next[0])) {
				next = []api.ID{x}
			}
		}
		if next == nil {
			return l
		}
		l = append(l, next...)
	}
}

func joinByRule(a, b trace.Trace) trace.Trace {
	return trace.Trace{Defs: joinedByRule(a.Defs, b.Defs), Nodes: joinedByRule(a.Nodes, b.Nodes)}
}

// asksByRule compares each ID with all others.
func asksByRule(t trace.Trace, ids []api.ID) bool {
	for _, a := range ids {
		for _, b := range slices.Concat(t.Defs, t.Nodes) {
			if a.Shop == b.Shop && a.Seq == b.Seq && a.Index == b.Index {
				return true
			}
		}
	}
	return false
}

func TestJoin(t *testing.T) {
	l := near()
	one, two := ids(1), ids(2)
	for _, x := range []struct {
		what       string
		a, b, want trace.Trace
	}{
		{"nothing", trace.Trace{}, trace.Trace{Defs: []api.ID{}, Nodes: []api.ID{}}, trace.Trace{}},
		{"definitions and nothing", trace.Trace{Defs: one}, trace.Trace{}, trace.Trace{Defs: one}},
		{"nothing and nodes", trace.Trace{}, trace.Trace{Nodes: one}, trace.Trace{Nodes: one}},
		{"a definition and a node with its ID", trace.Trace{Defs: one}, trace.Trace{Nodes: one}, trace.Trace{Defs: one, Nodes: one}},
		{"both with the same", trace.Trace{Defs: one, Nodes: two}, trace.Trace{Defs: one, Nodes: two}, trace.Trace{Defs: one, Nodes: two}},
		{"both with others", trace.Trace{Defs: one, Nodes: two}, trace.Trace{Defs: two, Nodes: one}, trace.Trace{Defs: sorted(ids(1, 2)), Nodes: sorted(ids(1, 2))}},
		{"lists that are not in order", trace.Trace{Defs: reversed(l), Nodes: reversed(l)}, trace.Trace{}, trace.Trace{Defs: l, Nodes: l}},
		{"lists that have IDs twice", trace.Trace{Defs: append(reversed(l), l...)}, trace.Trace{Nodes: append(reversed(l), l...)}, trace.Trace{Defs: l, Nodes: l}},
		{"the same IDs in another order", trace.Trace{Defs: l, Nodes: reversed(l)}, trace.Trace{Defs: reversed(l), Nodes: l}, trace.Trace{Defs: l, Nodes: l}},
		{"parts", trace.Trace{Defs: l[:9], Nodes: l[5:]}, trace.Trace{Defs: l[7:], Nodes: l[:7]}, trace.Trace{Defs: l, Nodes: l}},
		{"the zero ID", trace.Trace{Defs: []api.ID{{}}}, trace.Trace{Nodes: []api.ID{{}, {}}}, trace.Trace{Defs: []api.ID{{}}, Nodes: []api.ID{{}}}},
	} {
		for _, got := range []trace.Trace{trace.Join(x.a, x.b), trace.Join(x.b, x.a)} {
			if !same(got, x.want) {
				t.Errorf("P12.2: %s: %v, not %v", x.what, got, x.want)
			}
		}
	}
	for i := range l {
		for j := range l {
			got := trace.Join(trace.Trace{Defs: l[i : i+1], Nodes: l[j : j+1]}, trace.Trace{Defs: l[j : j+1], Nodes: l[i : i+1]})
			want := slices.Compact([]api.ID{l[min(i, j)], l[max(i, j)]})
			if !same(got, trace.Trace{Defs: want, Nodes: want}) {
				t.Errorf("P12.2: %v and %v: %v", l[i], l[j], got)
			}
		}
	}
}

func TestAsks(t *testing.T) {
	l := near()
	for _, x := range []struct {
		what  string
		trace trace.Trace
		ids   []api.ID
		want  bool
	}{
		{"nothing of nothing", trace.Trace{}, nil, false},
		{"nothing of something", trace.Trace{Defs: l, Nodes: l}, []api.ID{}, false},
		{"something of nothing", trace.Trace{}, l, false},
		{"the zero ID of nothing", trace.Trace{}, []api.ID{{}}, false},
		{"a definition", trace.Trace{Defs: ids(1, 2, 3), Nodes: ids(4)}, ids(2), true},
		{"a node", trace.Trace{Defs: ids(4), Nodes: ids(1, 2, 3)}, ids(2), true},
		{"a definition that is a node, too", trace.Trace{Defs: ids(4), Nodes: ids(4)}, ids(4), true},
		{"an ID that is last", trace.Trace{Defs: ids(1, 2)}, ids(5, 6, 2), true},
		{"an ID that is first", trace.Trace{Nodes: ids(1, 2)}, ids(1, 5, 6), true},
		{"an ID twice", trace.Trace{Nodes: ids(1, 2)}, ids(5, 1, 1), true},
		{"other IDs", trace.Trace{Defs: ids(1, 2), Nodes: ids(3, 4)}, ids(5, 6), false},
		{"a trace that is not in order", trace.Trace{Defs: reversed(l)}, l[:1], true},
		{"a trace that is not in order", trace.Trace{Nodes: append(reversed(l), ids(5, 4, 5)...)}, ids(4), true},
		{"IDs that are not in order", trace.Trace{Nodes: l[3:4]}, reversed(l), true},
	} {
		if got := trace.Asks(x.trace, x.ids); got != x.want {
			t.Errorf("P12.3: %s: %v", x.what, got)
		}
	}
	for i := range l {
		others := slices.Delete(slices.Clone(l), i, i+1)
		for _, x := range []trace.Trace{{Defs: others}, {Nodes: others}, {Defs: others, Nodes: reversed(others)}} {
			if trace.Asks(x, l[i:i+1]) {
				t.Errorf("P12.3: all but %v ask it", l[i])
			}
			x.Nodes = append(slices.Clone(x.Nodes), l[i])
			if !trace.Asks(x, l[i:i+1]) {
				t.Errorf("P12.3: all nodes do not ask %v", l[i])
			}
		}
		for _, x := range []trace.Trace{{Defs: l[i : i+1]}, {Nodes: l[i : i+1]}} {
			if trace.Asks(x, others) || !trace.Asks(x, l) {
				t.Errorf("P12.3: %v asks others, or not itself", l[i])
			}
		}
	}
}

// someTrace returns a trace of chance, which need not be in order.
func someTrace(r *rand.Rand, l []api.ID) trace.Trace {
	return trace.Trace{Defs: someIDs(r, l), Nodes: someIDs(r, l)}
}

func someIDs(r *rand.Rand, l []api.ID) []api.ID {
	var some []api.ID
	for range r.Intn(6) {
		some = append(some, l[r.Intn(len(l))])
	}
	return some
}

// TestJoinsOfChance compares traces of chance with the rule.
func TestJoinsOfChance(t *testing.T) {
	r := rand.New(rand.NewSource(1))
	counts := map[bool]int{}
	for range 20000 {
		l := append(near(), ids(0, 1, 2, 3)...)
		a, b, c := someTrace(r, l), someTrace(r, l), someIDs(r, l)
		both := trace.Join(a, b)
		if want := joinByRule(a, b); !same(both, want) {
			t.Fatalf("P12.2: %v and %v: %v, not %v", a, b, both, want)
		}
		asks := trace.Asks(a, c)
		if asks != asksByRule(a, c) {
			t.Fatalf("P12.3: %v, %v: %v", a, c, asks)
		}
		counts[asks]++
		if trace.Asks(both, c) != (asks || trace.Asks(b, c)) {
			t.Fatalf("P12.3: %v and %v do not ask what both together ask of %v", a, b, c)
		}
	}
	if counts[true] < 3000 || counts[false] < 3000 {
		t.Errorf("of the traces, %v ask some ID", counts)
	}
}
