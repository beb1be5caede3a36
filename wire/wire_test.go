package wire_test

import (
	"bytes"
	"math"
	"math/big"
	"math/rand"
	"runtime"
	"slices"
	"strings"
	"testing"

	"splicery/api"
	"splicery/wire"
)

// edges are the integers at which the number of digits changes, and their neighbours.
func edges() []int {
	l := []int{math.MinInt, math.MinInt + 1, math.MaxInt - 1, math.MaxInt}
	for k := range 8 {
		for d := -2; d <= 2; d++ {
			l = append(l, 1<<(8*k)+d, -1<<(8*k)+d, 1<<(8*k+7)+d)
		}
	}
	slices.Sort(l)
	return slices.Compact(l)
}

// byRule encodes an integer by the words of P1.1, with big numbers.
func byRule(n int) []byte {
	m := big.NewInt(int64(n))
	if n >= 0 {
		digits := m.Bytes()
		return append([]byte{byte(128 + len(digits))}, digits...)
	}
	m.Sub(big.NewInt(-1), m)
	digits := m.Bytes()
	for i := range digits {
		digits[i] = 255 - digits[i]
	}
	return append([]byte{byte(127 - len(digits))}, digits...)
}

func TestInt(t *testing.T) {
	for _, x := range []struct {
		n int
		b []byte
	}{
		{0, []byte{128}},
		{1, []byte{129, 1}},
		{255, []byte{129, 255}},
		{256, []byte{130, 1, 0}},
		{65535, []byte{130, 255, 255}},
		{65536, []byte{131, 1, 0, 0}},
		{api.MaxInt, []byte{134, 1, 0, 0, 0, 0, 0}},
		{-1, []byte{127}},
		{-2, []byte{126, 254}},
		{-256, []byte{126, 0}},
		{-257, []byte{125, 254, 255}},
		{-65536, []byte{125, 0, 0}},
		{-65537, []byte{124, 254, 255, 255}},
		{-api.MaxInt, []byte{122, 0, 0, 0, 0, 0}},
		{math.MaxInt, []byte{136, 127, 255, 255, 255, 255, 255, 255, 255}},
		{math.MinInt, []byte{119, 128, 0, 0, 0, 0, 0, 0, 0}},
	} {
		if b := wire.Int(x.n); !bytes.Equal(b, x.b) {
			t.Errorf("P1.1: Int(%d) = %v, not %v", x.n, b, x.b)
		}
	}
	for _, n := range append(edges(), -1000000, 1000000) {
		if b := wire.Int(n); !bytes.Equal(b, byRule(n)) {
			t.Errorf("P1.1: Int(%d) = %v, not %v", n, b, byRule(n))
		}
	}
}

func TestGetInt(t *testing.T) {
	for _, n := range edges() {
		b := byRule(n)
		for _, tail := range [][]byte{nil, {0}, {255, 128, 7}} {
			if got, used, e := wire.GetInt(append(slices.Clone(b), tail...)); got != n || used != len(b) || e != api.OK {
				t.Errorf("P1.2: GetInt(%v and %v) = %d, %d, %d", b, tail, got, used, e)
			}
		}
	}
}

func TestGetIntErrors(t *testing.T) {
	for _, x := range []struct {
		why string
		b   []byte
		e   api.Errno
	}{
		{"no bytes", nil, api.ErrMore},
		{"no bytes", []byte{}, api.ErrMore},
		{"first byte too great", []byte{137}, api.ErrForm},
		{"first byte too great, with digits", []byte{137, 1, 2, 3, 4, 5, 6, 7, 8, 9}, api.ErrForm},
		{"greatest first byte", []byte{255}, api.ErrForm},
		{"first byte too small", []byte{118}, api.ErrForm},
		{"first byte too small, with digits", []byte{118, 1, 2, 3, 4, 5, 6, 7, 8, 9}, api.ErrForm},
		{"least first byte", []byte{0}, api.ErrForm},
		{"no digit", []byte{129}, api.ErrMore},
		{"no digit of a negative number", []byte{126}, api.ErrMore},
		{"a digit less", []byte{130, 1}, api.ErrMore},
		{"a digit less, and not the shortest", []byte{130, 0}, api.ErrMore},
		{"a digit less, and too great", []byte{136, 255, 0, 0, 0, 0, 0, 0}, api.ErrMore},
		{"a digit less, negative, and too small", []byte{119, 0, 0, 0, 0, 0, 0, 0}, api.ErrMore},
		{"0 with a digit", []byte{129, 0}, api.ErrForm},
		{"-1 with a digit", []byte{126, 255}, api.ErrForm},
		{"255 with a zero", []byte{130, 0, 255}, api.ErrForm},
		{"-256 with a zero", []byte{125, 255, 0}, api.ErrForm},
		{"eight digits, not the shortest", []byte{136, 0, 255, 255, 255, 255, 255, 255, 255}, api.ErrForm},
		{"eight digits, negative, not the shortest", []byte{119, 255, 0, 0, 0, 0, 0, 0, 0}, api.ErrForm},
		{"2^63", []byte{136, 128, 0, 0, 0, 0, 0, 0, 0}, api.ErrForm},
		{"2^64 - 1", []byte{136, 255, 255, 255, 255, 255, 255, 255, 255}, api.ErrForm},
		{"-2^63 - 1", []byte{119, 127, 255, 255, 255, 255, 255, 255, 255}, api.ErrForm},
		{"-2^64", []byte{119, 0, 0, 0, 0, 0, 0, 0, 0}, api.ErrForm},
	} {
		if n, used, e := wire.GetInt(x.b); n != 0 || used != 0 || e != x.e {
			t.Errorf("P1.2: %s: GetInt(%v) = %d, %d, %d, not 0, 0, %d", x.why, x.b, n, used, e, x.e)
		}
	}
}

// TestGetIntOfAll decodes all sequences of up to two bytes, and all that begin like an integer with up to two digits.
func TestGetIntOfAll(t *testing.T) {
	known := map[string]int{}
	for n := -1 << 16; n < 1<<16; n++ {
		known[string(byRule(n))] = n
	}
	try := func(b []byte) {
		n, used, e := 0, 0, api.OK
		switch k := max(int(b[0])-128, 127-int(b[0])); {
		case k > 8:
			e = api.ErrForm
		case k > len(b)-1:
			e = api.ErrMore
		default:
			m, ok := known[string(b[:1+k])]
			if !ok {
				e = api.ErrForm
				break
			}
			n, used = m, 1+k
		}
		if gotN, gotUsed, gotE := wire.GetInt(b); gotN != n || gotUsed != used || gotE != e {
			t.Fatalf("P1.2: GetInt(%v) = %d, %d, %d, not %d, %d, %d", b, gotN, gotUsed, gotE, n, used, e)
		}
	}
	for first := range 256 {
		try([]byte{byte(first)})
		for i := range 256 {
			try([]byte{byte(first), byte(i)})
		}
	}
	for first := 125; first <= 130; first++ {
		for i := range 1 << 16 {
			try([]byte{byte(first), byte(i >> 8), byte(i)})
		}
	}
}

// encoded is a value with its encoding.
type encoded[T any] struct {
	x T
	b []byte
}

// refused is a byte sequence with the error that decoding it yields.
type refused struct {
	why string
	b   []byte
	e   api.Errno
}

// codec is a pair of functions of the package.
type codec[T any] struct {
	encode func(x T) []byte
	decode func(b []byte) (T, int, api.Errno)
	same   func(x, y T) bool
}

// check tests the encodings and the errors of a table.
func (c codec[T]) check(t *testing.T, promise string, good []encoded[T], bad []refused) {
	t.Helper()
	var zero T
	for _, g := range good {
		if b := c.encode(g.x); !bytes.Equal(b, g.b) {
			t.Errorf("%s: the encoding of %v is %v, not %v", promise, g.x, b, g.b)
		}
		for _, tail := range [][]byte{nil, {0}, {129, 1, 255}} {
			b := append(slices.Clone(g.b), tail...)
			if x, used, e := c.decode(b); !c.same(x, g.x) || used != len(g.b) || e != api.OK {
				t.Errorf("%s: %v is decoded as %v, %d, %d", promise, b, x, used, e)
			}
		}
	}
	for _, r := range bad {
		if x, used, e := c.decode(r.b); !c.same(x, zero) || used != 0 || e != r.e {
			t.Errorf("%s: %s: %v is decoded as %v, %d, %d, not with the error %d", promise, r.why, r.b, x, used, e, r.e)
		}
	}
}

// checkAny tests what holds for all byte sequences: without an error the bytes are the encoding of the result (P1.6), and with an error the other results are zero.
func (c codec[T]) checkAny(t *testing.T, b []byte) {
	t.Helper()
	var zero T
	before := slices.Clone(b)
	x, used, e := c.decode(b)
	switch {
	case !bytes.Equal(b, before):
		t.Fatalf("%v was changed to %v", before, b)
	case e != api.OK && (used != 0 || !c.same(x, zero)):
		t.Fatalf("%v is decoded as %v, %d, with the error %d", b, x, used, e)
	case e != api.OK && e != api.ErrMore && e != api.ErrForm:
		t.Fatalf("%v is decoded with the error %d", b, e)
	case e == api.OK && (used > len(b) || !bytes.Equal(c.encode(x), b[:used])):
		t.Fatalf("P1.6: %v is decoded as %v, %d, but the encoding of this is %v", b, x, used, c.encode(x))
	}
}

// checkValue tests what holds for the encodings of all values (P1.6).
func (c codec[T]) checkValue(t *testing.T, x T) {
	t.Helper()
	b := c.encode(x)
	for _, tail := range []string{"", "\x00", "\x80", "\xff\x77", "\x81\x01\x81\x01"} {
		if y, used, e := c.decode(append(slices.Clone(b), tail...)); !c.same(x, y) || used != len(b) || e != api.OK {
			t.Fatalf("P1.6: %v and %q: %v, %d, %d, not %v", b, tail, y, used, e, x)
		}
	}
	for i := range b {
		if _, used, e := c.decode(b[:i]); used != 0 || e != api.ErrMore {
			t.Fatalf("P1.6: a prefix, %v: %d, %d", b[:i], used, e)
		}
		c.checkAny(t, b[:i])
	}
}

func codecInt() codec[int] {
	return codec[int]{wire.Int, wire.GetInt, func(x, y int) bool { return x == y }}
}
func codecBytes() codec[string] {
	return codec[string]{wire.Bytes, wire.GetBytes, func(x, y string) bool { return x == y }}
}
func codecInts() codec[[]int] { return codec[[]int]{wire.Ints, wire.GetInts, slices.Equal[[]int]} }
func codecStrings() codec[[]string] {
	return codec[[]string]{wire.Strings, wire.GetStrings, slices.Equal[[]string]}
}
func codecDigests() codec[[]api.Digest] {
	return codec[[]api.Digest]{wire.Digests, wire.GetDigests, slices.Equal[[]api.Digest]}
}

// badLengths are the errors that a length yields, whatever is counted by it.
func badLengths() []refused {
	return []refused{
		{"no bytes", nil, api.ErrMore},
		{"a length that is no integer", []byte{137, 1}, api.ErrForm},
		{"a length that is cut off", []byte{130, 1}, api.ErrMore},
		{"a length that is not the shortest", []byte{129, 0}, api.ErrForm},
		{"a length of -1", []byte{127}, api.ErrForm},
		{"a length of -1, and a byte", []byte{127, 128}, api.ErrForm},
		{"the least length", []byte{119, 128, 0, 0, 0, 0, 0, 0, 0, 128}, api.ErrForm},
		{"nothing follows", []byte{129, 1}, api.ErrMore},
		{"a length of 2^40", []byte{134, 1, 0, 0, 0, 0, 0, 128, 128}, api.ErrMore},
		{"a length of 2^60", []byte{136, 16, 0, 0, 0, 0, 0, 0, 0, 128, 128}, api.ErrMore},
		{"a length of 2^62 + 1", []byte{136, 64, 0, 0, 0, 0, 0, 0, 1, 128, 128}, api.ErrMore},
		{"the greatest length", []byte{136, 127, 255, 255, 255, 255, 255, 255, 255, 128, 128}, api.ErrMore},
	}
}

func TestBytes(t *testing.T) {
	long := strings.Repeat("x", 256)
	codecBytes().check(t, "P1.3", []encoded[string]{
		{"", []byte{128}},
		{"ab", []byte{129, 2, 97, 98}},
		{"\x00", []byte{129, 1, 0}},
		{"\xff\x80", []byte{129, 2, 255, 128}},
		{"é", []byte{129, 2, 195, 169}},
		{long[:255], append([]byte{129, 255}, long[:255]...)},
		{long, append([]byte{130, 1, 0}, long...)},
	}, append(badLengths(),
		refused{"a byte less", []byte{129, 3, 97, 98}, api.ErrMore},
	))
}

func TestInts(t *testing.T) {
	codecInts().check(t, "P1.4", []encoded[[]int]{
		{nil, []byte{128}},
		{[]int{}, []byte{128}},
		{[]int{0}, []byte{129, 1, 128}},
		{[]int{1, -1}, []byte{129, 2, 129, 1, 127}},
		{[]int{256, 0, -257}, []byte{129, 3, 130, 1, 0, 128, 125, 254, 255}},
		{[]int{math.MinInt, math.MaxInt}, []byte{129, 2, 119, 128, 0, 0, 0, 0, 0, 0, 0, 136, 127, 255, 255, 255, 255, 255, 255, 255}},
	}, append(badLengths(),
		refused{"fewer bytes than elements, the first of which is wrong", []byte{129, 3, 137, 128}, api.ErrMore},
		refused{"the first element is wrong", []byte{129, 2, 137, 128}, api.ErrForm},
		refused{"the last element is wrong", []byte{129, 2, 128, 118}, api.ErrForm},
		refused{"an element is not the shortest", []byte{129, 2, 129, 0, 128}, api.ErrForm},
		refused{"an element is cut off", []byte{129, 2, 128, 129}, api.ErrMore},
		refused{"the last element is missing", []byte{129, 2, 129, 1}, api.ErrMore},
		refused{"of two wrong elements the first counts", []byte{129, 2, 126, 255, 130}, api.ErrForm},
	))
}

func TestStrings(t *testing.T) {
	codecStrings().check(t, "P1.5", []encoded[[]string]{
		{nil, []byte{128}},
		{[]string{}, []byte{128}},
		{[]string{""}, []byte{129, 1, 128}},
		{[]string{"", "a"}, []byte{129, 2, 128, 129, 1, 97}},
		{[]string{"\xff\x00", "", "é"}, []byte{129, 3, 129, 2, 255, 0, 128, 129, 2, 195, 169}},
	}, append(badLengths(),
		refused{"fewer bytes than elements, the first of which is wrong", []byte{129, 3, 127, 128}, api.ErrMore},
		refused{"an element of a negative length", []byte{129, 2, 127, 128}, api.ErrForm},
		refused{"an element whose length is no integer", []byte{129, 2, 128, 255}, api.ErrForm},
		refused{"an element whose length is not the shortest", []byte{129, 1, 129, 0}, api.ErrForm},
		refused{"an element longer than what follows", []byte{129, 2, 128, 129, 2, 97}, api.ErrMore},
		refused{"an element with the greatest length", []byte{129, 1, 136, 127, 255, 255, 255, 255, 255, 255, 255, 97}, api.ErrMore},
		refused{"the last element is missing", []byte{129, 2, 129, 1, 97}, api.ErrMore},
		refused{"of two wrong elements the first counts", []byte{129, 2, 127, 129}, api.ErrForm},
	))
}

func TestDigests(t *testing.T) {
	d := api.Digest{0: 1, 1: 2, 15: 255}
	two := append(append([]byte{129, 2}, make([]byte, 16)...), d[:]...)
	many := make([]api.Digest, 256)
	many[255] = d
	codecDigests().check(t, "P1.8", []encoded[[]api.Digest]{
		{nil, []byte{128}},
		{[]api.Digest{}, []byte{128}},
		{[]api.Digest{d}, append([]byte{129, 1}, d[:]...)},
		{[]api.Digest{{}, d}, two},
		{many, append(append([]byte{130, 1, 0}, make([]byte, 255*16)...), d[:]...)},
	}, append(badLengths(),
		refused{"a byte less", two[:33], api.ErrMore},
		refused{"a digest less", two[:18], api.ErrMore},
		refused{"a byte for each digest", []byte{129, 2, 0, 0}, api.ErrMore},
		// 2^60 digests have 2^64 bytes, which is 0 in 64 bits.
		refused{"so many digests that their bytes wrap around", append([]byte{136, 16, 0, 0, 0, 0, 0, 0, 1}, make([]byte, 16)...), api.ErrMore},
	))
}

func TestRoundTrips(t *testing.T) {
	all := edges()
	for _, n := range all {
		codecInt().checkValue(t, n)
	}
	r := rand.New(rand.NewSource(1))
	for range 300 {
		ints, texts, digests := make([]int, r.Intn(6)), make([]string, r.Intn(6)), make([]api.Digest, r.Intn(4))
		for i := range ints {
			ints[i] = all[r.Intn(len(all))]
		}
		for i := range texts {
			texts[i] = string(noise(r, r.Intn(5)))
		}
		for i := range digests {
			digests[i] = api.Digest(noise(r, api.DigestSize))
		}
		codecInts().checkValue(t, ints)
		codecStrings().checkValue(t, texts)
		codecDigests().checkValue(t, digests)
		codecBytes().checkValue(t, string(noise(r, r.Intn(300))))
	}
}

// noise returns n bytes, many of which begin an integer.
func noise(r *rand.Rand, n int) []byte {
	b := make([]byte, n)
	for i := range b {
		b[i] = byte(r.Intn(256))
		if r.Intn(2) == 0 {
			b[i] = byte(125 + r.Intn(6))
		}
	}
	return b
}

// TestAnyBytes decodes byte sequences that may be wrong in any way (P1, P1.6).
func TestAnyBytes(t *testing.T) {
	r := rand.New(rand.NewSource(2))
	for i := range 100000 {
		b := noise(r, r.Intn(12))
		if i%2 == 0 {
			b = append([]byte{129, byte(r.Intn(4))}, b...)
		}
		codecInt().checkAny(t, b)
		codecBytes().checkAny(t, b)
		codecInts().checkAny(t, b)
		codecStrings().checkAny(t, b)
		codecDigests().checkAny(t, append(b, noise(r, r.Intn(50))...))
	}
}

func TestOrder(t *testing.T) {
	all := edges()
	for _, m := range all {
		if b := wire.Int(m); len(b) > 9 {
			t.Errorf("P1.7: the encoding of %d has %d bytes", m, len(b))
		}
		for _, n := range all {
			if got := bytes.Compare(wire.Int(m), wire.Int(n)); (m < n) != (got < 0) || (m == n) != (got == 0) {
				t.Errorf("P1.7: the encodings of %d and %d compare as %d", m, n, got)
			}
		}
	}
	for n := -70000; n < 70000; n++ {
		if bytes.Compare(wire.Int(n), wire.Int(n+1)) >= 0 {
			t.Fatalf("P1.7: the encoding of %d is not before that of %d", n, n+1)
		}
	}
}

func TestResultsAreNewMemory(t *testing.T) {
	for name, encode := range map[string]func() []byte{
		"Int":     func() []byte { return wire.Int(258) },
		"Bytes":   func() []byte { return wire.Bytes("ab") },
		"Ints":    func() []byte { return wire.Ints([]int{1, 2}) },
		"Strings": func() []byte { return wire.Strings([]string{"a", "b"}) },
		"Digests": func() []byte { return wire.Digests([]api.Digest{{1}}) },
	} {
		first, second := encode(), encode()
		clear(first)
		if !bytes.Equal(second, encode()) || bytes.Equal(second, first) {
			t.Errorf("%s: results share memory", name)
		}
	}
	b := []byte{129, 2, 97, 98}
	s, _, _ := wire.GetBytes(b)
	clear(b)
	if s != "ab" {
		t.Errorf("GetBytes: the result has become %q", s)
	}
	b = []byte{129, 2, 129, 1, 97, 129, 1, 98}
	l, _, _ := wire.GetStrings(b)
	clear(b)
	if !slices.Equal(l, []string{"a", "b"}) {
		t.Errorf("GetStrings: the result has become %q", l)
	}
	d := api.Digest{1, 2, 3}
	b = wire.Digests([]api.Digest{d})
	digests, _, _ := wire.GetDigests(b)
	clear(b)
	if !slices.Equal(digests, []api.Digest{d}) {
		t.Errorf("GetDigests: the result has become %v", digests)
	}
	ints, texts := []int{3, -4}, []string{"x", ""}
	wire.Ints(ints)
	wire.Strings(texts)
	if !slices.Equal(ints, []int{3, -4}) || !slices.Equal(texts, []string{"x", ""}) {
		t.Errorf("arguments have become %v, %q", ints, texts)
	}
}

// allocated returns how many bytes a call allocates.
func allocated(call func()) uint64 {
	var before, after runtime.MemStats
	runtime.ReadMemStats(&before)
	call()
	runtime.ReadMemStats(&after)
	return after.TotalAlloc - before.TotalAlloc
}

func TestMemory(t *testing.T) {
	const n = 1 << 16
	whole := append(wire.Int(n), bytes.Repeat([]byte{128}, n)...)
	wrong := slices.Clone(whole)
	wrong[len(wire.Int(n))] = 255
	forged := append(wire.Int(1<<32), bytes.Repeat([]byte{128}, n)...)
	for name, b := range map[string][]byte{"whole": whole, "wrong": wrong, "forged": forged} {
		for decoder, call := range map[string]func(){
			"GetBytes":   func() { wire.GetBytes(b) },
			"GetInts":    func() { wire.GetInts(b) },
			"GetStrings": func() { wire.GetStrings(b) },
			"GetDigests": func() { wire.GetDigests(b) },
		} {
			if got := allocated(call); got > 64*n {
				t.Errorf("%s of %s: %d bytes for %d", decoder, name, got, len(b))
			}
		}
	}
}
