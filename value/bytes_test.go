package value_test

import (
	"bytes"
	"math"
	"math/rand"
	"runtime"
	"slices"
	"testing"

	"splicery/api"
	"splicery/value"
	"splicery/wire"
)

// decodes reports whether Decode of b returns a value and a number of bytes.
func decodes(b []byte, v api.Value, n int) bool {
	got, used, e := value.Decode(b)
	return same(got, v) && used == n && e == api.OK
}

// refuses checks that Decode of b returns an error, and nothing else.
func refuses(t *testing.T, what string, b []byte, want api.Errno) {
	t.Helper()
	if v, used, e := value.Decode(b); !same(v, api.Value{}) || used != 0 || e != want {
		t.Errorf("P4.5: %s: Decode returns %.99v, %d, %d, not an empty value, 0 and %d", what, v, used, e, want)
	}
}

// head returns the encoding of a node without its kids.
func head(kind, n, kids int) []byte {
	return slices.Concat(wire.Int(kind), wire.Int(n), wire.Int(kids))
}

// tails are bytes that can follow an encoding.
var tails = [][]byte{nil, {0}, {128}, {255, 255, 255}, {128, 128, 128}, {129, 4, 128, 128}}

func TestEncode(t *testing.T) {
	for _, x := range []struct {
		v api.Value
		b []byte
	}{
		{api.Value{}, []byte{128, 128, 128}},
		{list(num(5)), []byte{129, 4, 128, 129, 1, 128, 129, 5, 128}},
		{num(-1), []byte{128, 127, 128}},
		{truth(1), []byte{129, 1, 129, 1, 128}},
		{one(1, rec(num(1), num(-2))), []byte{129, 3, 129, 1, 129, 1, 129, 2, 128, 129, 2, 128, 129, 1, 128, 128, 126, 254, 128}},
		{odd(-1, math.MinInt), []byte{127, 119, 128, 0, 0, 0, 0, 0, 0, 0, 128}},
		{odd(math.MaxInt, 256), []byte{136, 127, 255, 255, 255, 255, 255, 255, 255, 130, 1, 0, 128}},
	} {
		if got := value.Encode(x.v); !bytes.Equal(got, x.b) {
			t.Errorf("P4.5: Encode of %v returns %v, not %v", x.v, got, x.b)
		}
		if !decodes(x.b, x.v, len(x.b)) {
			t.Errorf("P4.5: Decode of %v is not %v", x.b, x.v)
		}
	}
	for _, v := range append(ordered(), many(1000, many(300, num(1)))) {
		if !bytes.Equal(value.Encode(v), encodeByRule(v)) {
			t.Errorf("P4.5: Encode of %.99v returns other bytes than the rule", v)
		}
	}
	deep := nested(api.VList, 0, levels, num(1))
	if want := append(bytes.Repeat(head(api.VList, 0, 1), levels), head(0, 1, 0)...); !bytes.Equal(value.Encode(deep), want) {
		t.Error("P4.5: the encoding of a deep value is a wrong one")
	}
	a, b := value.Encode(list(num(5))), value.Encode(list(num(5)))
	disjoint(t, "Encode", a, b)
}

// full256 are values with 256 nodes, or with the depth 24, and one with both.
func full256() []api.Value {
	both := many(232, num(1))
	both.Kids = append(both.Kids, nested(api.VList, 0, 22, num(7)))
	return []api.Value{
		many(255, num(most)), nested(api.VList, 0, 23, num(1)), nested(-3, -3, 23, odd(9, 9)), both,
		list(many(126, truth(1)), many(127, odd(-1, -1))), list(nested(api.VCase, 1, 22, num(1)), num(2), nested(api.VRec, 0, 22, list())),
	}
}

// TestDecode has encodings that are followed by other bytes, and such that are cut off.
func TestDecode(t *testing.T) {
	for _, v := range append(ordered(), full256()...) {
		b := encodeByRule(v)
		for _, tail := range tails {
			if !decodes(slices.Concat(b, tail), v, len(b)) {
				t.Errorf("P4.8: the encoding of %.99v, with %v behind it, is not decoded", v, tail)
			}
		}
		for n := range b {
			refuses(t, "a part of an encoding", b[:n], api.ErrMore)
		}
	}
	a, _, _ := value.Decode(value.Encode(list(list(num(1)), list(num(2), num(3)))))
	b, _, _ := value.Decode(value.Encode(list(list(num(1)), list(num(2), num(3)))))
	disjoint(t, "Decode", a, b)
}

// TestDecodeLimits has values with 257 nodes, and such with the depth 25: the error is that of the first node, even if the bytes behind it are missing or malformed.
func TestDecodeLimits(t *testing.T) {
	wide, deep := many(255, num(1)), nested(api.VList, 0, 23, num(1))
	wideBytes := encodeByRule(list(append(wide.Kids, num(1))...))
	deepBytes := encodeByRule(nested(api.VList, 0, 24, num(1)))
	if value.Size(wide) != 256 || depth(deep) != 24 {
		t.Fatal("the values have other sizes")
	}
	last := len(head(0, 1, 0)) // the bytes of the node that is too much
	for _, b := range [][]byte{wideBytes, deepBytes} {
		for n := range len(b) - last {
			refuses(t, "a part in front of the limit", b[:n], api.ErrMore)
		}
		b = b[:len(b)-last]
		for _, tail := range append(tails, head(0, 1, 0), []byte{0}, head(0, 0, -1), head(0, 0, 5)) {
			refuses(t, "a node too much", slices.Concat(b, tail), api.ErrLimit)
		}
	}
	for _, v := range []api.Value{many(256, num(1)), many(5000, num(1)), list(many(127, num(0)), many(127, num(0))), nested(api.VList, 0, levels, num(1)), list(num(1), nested(api.VRec, 0, 23, num(1)))} {
		refuses(t, "a great value", value.Encode(v), api.ErrLimit)
	}
	spoiled := encodeByRule(list(num(1), nested(api.VRec, 0, 23, num(1)), num(2)))
	spoiled[len(head(api.VList, 0, 3))] = 0 // the Kind of the second node
	refuses(t, "a malformed node in front of the limit", spoiled, api.ErrForm)
	spoiled = slices.Concat(head(api.VList, 0, 2), []byte{0}, bytes.Repeat(head(api.VList, 0, 1), 30))
	refuses(t, "a malformed node in front of the limit", spoiled, api.ErrForm)
}

func TestDecodeErrors(t *testing.T) {
	three := head(api.VList, 0, 3)
	for _, x := range []struct {
		what string
		b    []byte
		e    api.Errno
	}{
		{"no bytes", nil, api.ErrMore},
		{"a malformed Kind", []byte{0}, api.ErrForm},
		{"a Kind that is not the shortest", []byte{129, 0, 128, 128}, api.ErrForm},
		{"a Kind that is cut off", []byte{129}, api.ErrMore},
		{"no N", []byte{128}, api.ErrMore},
		{"a malformed N", []byte{128, 255}, api.ErrForm},
		{"an N that is cut off", []byte{128, 130, 1}, api.ErrMore},
		{"no number of Kids", []byte{128, 128}, api.ErrMore},
		{"a malformed number of Kids", []byte{128, 128, 137}, api.ErrForm},
		{"a number of Kids that is cut off", []byte{128, 128, 136, 255}, api.ErrMore},
		{"a number of Kids beyond 2^63", []byte{128, 128, 136, 255, 255, 255, 255, 255, 255, 255, 255}, api.ErrForm},
		{"-1 Kids", head(0, 0, -1), api.ErrForm},
		{"the least number of Kids", head(0, 0, math.MinInt), api.ErrForm},
		{"-1 Kids, followed by a value", slices.Concat(head(0, 0, -1), head(0, 0, 0)), api.ErrForm},
		{"no kid", head(0, 0, 1), api.ErrMore},
		{"no kid of many", head(0, 0, 1<<40), api.ErrMore},
		{"no kid of the most", head(0, 0, math.MaxInt), api.ErrMore},
		{"a malformed kid of the most", append(head(0, 0, math.MaxInt), 1), api.ErrForm},
		{"a malformed third kid", slices.Concat(three, head(0, 1, 0), head(0, 2, 0), []byte{3}), api.ErrForm},
		{"no third kid", slices.Concat(three, head(0, 1, 0), head(0, 2, 0)), api.ErrMore},
		{"-2 Kids of the second kid", slices.Concat(three, head(0, 1, 0), head(0, 2, -2), []byte{3}), api.ErrForm},
		{"a second kid that is cut off", slices.Concat(three, head(0, 1, 0), head(0, 2, 1), head(0, 2, 1)), api.ErrMore},
		{"a kid of the second kid that is malformed, and no third one", slices.Concat(three, head(0, 1, 0), head(0, 2, 1), []byte{128, 118}), api.ErrForm},
	} {
		refuses(t, x.what, x.b, x.e)
	}
}

// TestDecodeMemory decodes a few bytes that announce very many kids.
func TestDecodeMemory(t *testing.T) {
	b := bytes.Repeat(head(api.VList, 0, math.MaxInt), 10)
	var before, after runtime.MemStats
	runtime.ReadMemStats(&before)
	refuses(t, "many kids announced", b, api.ErrMore)
	refuses(t, "many kids announced", head(0, 0, 1<<31), api.ErrMore)
	runtime.ReadMemStats(&after)
	if n := after.TotalAlloc - before.TotalAlloc; n > 1<<16 {
		t.Errorf("P1: Decode of %d bytes takes %d bytes of memory", len(b), n)
	}
}

// TestBytesOfChance changes bytes of encodings, and compares what is decoded with the rule.
func TestBytesOfChance(t *testing.T) {
	r := maker{rand.New(rand.NewSource(6))}
	seen := map[api.Errno]int{}
	known := full256()
	for i := range 20000 {
		v := r.any(r.pick(1, 3, 6))
		if i%20 == 0 {
			v = list(num(1), known[i/20%len(known)]) // a node too much, at different places
		}
		b := encodeByRule(v)
		for range r.Intn(3) {
			b[r.Intn(len(b))] = byte(r.pick(0, 1, 2, 3, 118, 119, 126, 127, 128, 129, 130, 255))
		}
		b = append(b[:len(b)-r.pick(0, 0, 0, 1, 2)], byte(r.Intn(256)))
		numbers, used, e := decodeByRule(b)
		got, n, f := value.Decode(b)
		if e == api.OK && !slices.Equal(flat(got), numbers) || e != api.OK && !same(got, api.Value{}) || n != used || f != e {
			t.Fatalf("P4.5: Decode of %v returns %v, %d, %d, not %v, %d, %d", b, got, n, f, numbers, used, e)
		}
		if e == api.OK && !bytes.Equal(value.Encode(got), b[:n]) {
			t.Fatalf("P4.5: Decode of %v returns %v", b, got)
		}
		seen[e]++
	}
	for _, e := range []api.Errno{api.OK, api.ErrForm, api.ErrMore, api.ErrLimit} {
		if seen[e] < 100 {
			t.Errorf("the bytes of chance have the error %d only %d times", e, seen[e])
		}
	}
}

// TestPrefixes checks that encodings are equal exactly if the values are, and that none is the beginning of another one.
func TestPrefixes(t *testing.T) {
	r := maker{rand.New(rand.NewSource(7))}
	l := append(ordered(), full256()...)
	for range 300 {
		l = append(l, r.any(r.pick(1, 2, 3)))
	}
	for _, a := range l {
		for _, b := range l {
			x, y := value.Encode(a), value.Encode(b)
			equal := value.Compare(a, b) == 0
			if equal != bytes.Equal(x, y) || equal != bytes.HasPrefix(x, y) {
				t.Fatalf("P4.8: the encodings of %v and %v are %v and %v", a, b, x, y)
			}
		}
	}
}
