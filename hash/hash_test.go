package hash_test

import (
	"bytes"
	"crypto/hmac"
	"crypto/sha256"
	"encoding/hex"
	"fmt"
	"math"
	"math/rand"
	"slices"
	"strings"
	"testing"

	"splicery/api"
	"splicery/hash"
	"splicery/wire"
)

// noise returns n bytes, the same ones in each run.
func noise(seed int64, n int) string {
	b := make([]byte, n)
	rand.New(rand.NewSource(seed)).Read(b)
	return string(b)
}

// lengths are those around the borders of the first blocks: those at which the last block begins or ends, and at which the padding needs a block more.
func lengths() []int {
	l := []int{0, 1, 2, 3, 4, 5}
	for block := 64; block <= 320; block += 64 {
		for n := block - 10; n <= block+2; n++ {
			l = append(l, n)
		}
	}
	return append(l, 1000, 4095, 4096, 4097, api.MaxRecord, api.MaxBytes-1, api.MaxBytes)
}

func inHex(sum [32]byte) string { return hex.EncodeToString(sum[:]) }

// TestSumOfExamples has the examples of the chapter and those of FIPS 180-4.
func TestSumOfExamples(t *testing.T) {
	for _, x := range []struct{ text, sum string }{
		{"", "e3b0c44298fc1c149afbf4c8996fb92427ae41e4649b934ca495991b7852b855"},
		{"abc", "ba7816bf8f01cfea414140de5dae2223b00361a396177a9cb410ff61f20015ad"},
		{"abcdbcdecdefdefgefghfghighijhijkijkljklmklmnlmnomnopnopq", "248d6a61d20638b8e5c026930c3e6039a33ce45964ff2167f6ecedd419db06c1"},
		{"abcdefghbcdefghicdefghijdefghijkefghijklfghijklmghijklmnhijklmnoijklmnopjklmnopqklmnopqrlmnopqrsmnopqrstnopqrstu", "cf5b16a778af8380036ce59e7b0492370b249b11e8f07a51afac45037afee9d1"},
		{strings.Repeat("a", 1000000), "cdc76e5c9914fb9281a1c7e284d73e67f1809a48a497200e046d39ccc7112cd0"},
	} {
		if got := inHex(hash.Sum([]byte(x.text))); got != x.sum {
			t.Errorf("P2.1: the sum of %.20q is %s, not %s", x.text, got, x.sum)
		}
		if got := inHex(hash.Begin().Add(x.text).Sum()); got != x.sum {
			t.Errorf("P2.2: the sum of a stream of %.20q is %s, not %s", x.text, got, x.sum)
		}
	}
	if hash.Sum(nil) != hash.Sum([]byte{}) {
		t.Error("P2.1: nil and empty differ")
	}
}

func TestSum(t *testing.T) {
	for _, n := range lengths() {
		for _, text := range []string{noise(int64(n), n), strings.Repeat("\x00", n), strings.Repeat("\xff", n), strings.Repeat("\x80", n)} {
			b := []byte(text)
			got, want := hash.Sum(b), sha256.Sum256([]byte(text))
			if got != want {
				t.Errorf("P2.1: the sum of %d bytes is %s, not %s", n, inHex(got), inHex(want))
			}
			if string(b) != text {
				t.Errorf("P2.1: Sum changes its argument of %d bytes", n)
			}
			if s := hash.Begin().Add(text); s.Sum() != want || s.Sum() != want {
				t.Errorf("P2.2: a stream of %d bytes has the sum %s, not %s", n, inHex(s.Sum()), inHex(want))
			}
		}
	}
}

// TestLongMessage has a message whose length in bits has more than 32 bits.
func TestLongMessage(t *testing.T) {
	piece := noise(1, 1<<20)
	s, known := hash.Begin(), sha256.New()
	for range 1 << 9 {
		s = s.Add(piece)
		known.Write([]byte(piece))
	}
	if got := s.Sum(); !bytes.Equal(got[:], known.Sum(nil)) {
		t.Errorf("P2.1: the sum of 2^29 bytes is %s, not %x", inHex(got), known.Sum(nil))
	}
}

func TestPieces(t *testing.T) {
	if got := inHex(hash.Begin().Add("a").Add("bc").Sum()); got != "ba7816bf8f01cfea414140de5dae2223b00361a396177a9cb410ff61f20015ad" {
		t.Errorf("P2.2: the sum of a and bc is %s", got)
	}
	text := noise(2, 200)
	want := hash.Sum([]byte(text))
	for i := range len(text) + 1 {
		for j := i; j <= len(text); j++ {
			s := hash.Begin().Add(text[:i]).Add(text[i:j]).Add("").Add(text[j:])
			if s.Sum() != want {
				t.Fatalf("P2.6: 200 bytes in pieces that end at %d and %d have another sum", i, j)
			}
		}
	}
	r := rand.New(rand.NewSource(3))
	for _, n := range lengths() {
		text := noise(int64(n), n)
		s := hash.Begin()
		for rest := text; rest != ""; {
			cut := min(len(rest), r.Intn(150))
			s, rest = s.Add(rest[:cut]), rest[cut:]
		}
		if s.Sum() != hash.Sum([]byte(text)) {
			t.Errorf("P2.6: %d bytes have another sum in pieces", n)
		}
	}
	s := hash.Begin()
	for i := range len(text) {
		s = s.Add(text[i : i+1])
		if s.Sum() != hash.Sum([]byte(text[:i+1])) {
			t.Errorf("P2.6: %d bytes have another sum byte by byte", i+1)
		}
	}
}

// TestBranches continues one stream by two others (P2.2).
func TestBranches(t *testing.T) {
	for _, n := range lengths() {
		text := noise(int64(n), n)
		sum := func(tail string) [32]byte { return hash.Sum([]byte(text + tail)) }
		s := hash.Begin().Add(text)
		for _, size := range []int{1, 8, 63, 64, 65, 130} {
			one, two := noise(4, size), noise(5, size)
			left := s.Add(one)
			right := s.Add(two)
			if left.Sum() != sum(one) || right.Sum() != sum(two) {
				t.Errorf("P2.2: two streams that continue one of %d bytes by %d disturb each other", n, size)
			}
			if s.Sum() != sum("") || s.Add("").Sum() != sum("") {
				t.Errorf("P2.2: a stream of %d bytes changes when others continue it by %d", n, size)
			}
			if left.Add(two).Sum() != sum(one+two) || right.Add(one).Sum() != sum(two+one) {
				t.Errorf("P2.2: after Sum, streams of %d and %d bytes are not continued rightly", n, size)
			}
		}
	}
	if hash.Begin().Sum() != hash.Sum(nil) {
		t.Error("P2.2: the stream that Begin returns is not empty")
	}
}

// TestMacOfExamples has the examples of the chapter and some of RFC 4231.
func TestMacOfExamples(t *testing.T) {
	for _, x := range []struct{ key, text, mac string }{
		{"", "", "b613679a0814d9ec772f95d778c35fc5ff1697c493715653c6c712144292c5ad"},
		{"Jefe", "what do ya want for nothing?", "5bdcc146bf60754e6a042426089575c75a003f089d2739839dec58b964ec3843"},
		{strings.Repeat("\x0b", 20), "Hi There", "b0344c61d8db38535ca8afceaf0bf12b881dc200c9833da726e9376c2e32cff7"},
		{strings.Repeat("\xaa", 20), strings.Repeat("\xdd", 50), "773ea91e36800e46854db8ebd09181a72959098b3ef8c122d9635514ced565fe"},
		{strings.Repeat("\xaa", 131), "Test Using Larger Than Block-Size Key - Hash Key First", "60e431591ee0b67f0d8a26aacbf5b77f8e0bc6213728c5140546040f0ee37f54"},
		{strings.Repeat("\xaa", 131), "This is a test using a larger than block-size key and a larger than block-size data. The key needs to be hashed before being used by the HMAC algorithm.", "9b09ffa71b942fcb27635fbcd5b0e944bfdc63644f0713938a7f51535c3a35e2"},
	} {
		if got := hex.EncodeToString([]byte(hash.Mac(x.key, x.text))); got != x.mac {
			t.Errorf("P2.3: the code of %q with the key %q is %s, not %s", x.text, x.key, got, x.mac)
		}
	}
}

func TestMac(t *testing.T) {
	for _, k := range []int{0, 1, 16, 31, 32, 33, 63, 64, 65, 66, 127, 128, 129, 1000} {
		for _, n := range []int{0, 1, 55, 56, 63, 64, 65, 200} {
			key, text := noise(int64(k), k), noise(int64(n), n)
			known := hmac.New(sha256.New, []byte(key))
			known.Write([]byte(text))
			if got, want := hash.Mac(key, text), string(known.Sum(nil)); got != want {
				t.Errorf("P2.3: the code of %d bytes with a key of %d is %x, not %x", n, k, got, want)
			}
		}
	}
	long := noise(6, 65)
	sum := hash.Sum([]byte(long))
	if hash.Mac(long, "x") != hash.Mac(string(sum[:]), "x") {
		t.Error("P2.3: a key of 65 bytes is not replaced by its sum")
	}
	if sum := hash.Sum([]byte(long[:64])); hash.Mac(long[:64], "x") == hash.Mac(string(sum[:]), "x") {
		t.Error("P2.3: a key of 64 bytes is replaced by its sum")
	}
	if hash.Mac("k", "x") != hash.Mac("k\x00", "x") || hash.Mac("k", "x") == hash.Mac("k", "x\x00") {
		t.Error("P2.3: not the key but the text is extended by zeros")
	}
}

// byRule returns the digest of parts by the words of P2.4.
func byRule(tag byte, parts []string) api.Digest {
	b := []byte{tag}
	for _, part := range parts {
		b = append(b, wire.Bytes(part)...)
	}
	sum := sha256.Sum256(b)
	return api.Digest(sum[:16])
}

func TestOf(t *testing.T) {
	for _, x := range []struct {
		digest      api.Digest
		first, last string
	}{
		{hash.Of(1), "4bf5122f", "8cd2b7e3"},
		{hash.Of(8, "a", ""), "36cd5085", "a7d8fb62"},
	} {
		if got := hex.EncodeToString(x.digest[:]); got[:8] != x.first || got[24:] != x.last {
			t.Errorf("P2.4: a digest is %s, not %s .. %s", got, x.first, x.last)
		}
	}
	lists := [][]string{nil, {""}, {"a"}, {"a", ""}, {"", "a"}, {"ab"}, {"a", "b"}, {"a", "b", "c"}}
	for _, n := range lengths() {
		lists = append(lists, []string{noise(int64(n), n)}, []string{"x", noise(int64(n), n), "y"})
	}
	for i, parts := range lists {
		before := slices.Clone(parts)
		for _, tag := range []int{0, 1, 2, api.TagChain, 127, 128, 255} {
			if got, want := hash.Of(tag, parts...), byRule(byte(tag), parts); got != want {
				t.Errorf("P2.4: of the tag %d and the list %d it is %x, not %x", tag, i, got, want)
			}
		}
		if !slices.Equal(parts, before) {
			t.Errorf("P2.4: Of changes the list %d", i)
		}
	}
	if hash.Of(3, []string{}...) != hash.Of(3) {
		t.Error("P2.4: no parts and an empty list of parts differ")
	}
}

func TestTags(t *testing.T) {
	for _, x := range []struct {
		tag int
		b   byte
	}{
		{256, 0}, {257, 1}, {511, 255}, {512, 0}, {1000, 232}, {1 << 32, 0}, {1<<32 + 7, 7}, {math.MaxInt, 255},
		{-1, 255}, {-2, 254}, {-255, 1}, {-256, 0}, {-257, 255}, {-1000, 24}, {math.MinInt, 0}, {math.MinInt + 1, 1},
	} {
		if got, want := hash.Of(x.tag, "part", ""), byRule(x.b, []string{"part", ""}); got != want {
			t.Errorf("P2.4: the tag %d does not count as %d", x.tag, x.b)
		}
	}
	for tag := -600; tag < 600; tag++ {
		if hash.Of(tag) != hash.Of(tag+256) || hash.Of(tag) == hash.Of(tag+128) {
			t.Errorf("P2.4: the tag %d does not count modulo 256", tag)
		}
	}
}

// TestDifferentInputs compares the digests of lists that have the same bytes when they are joined, or that look like the encodings of others (P2.6).
func TestDifferentInputs(t *testing.T) {
	lists := [][]string{{}, {""}, {"", ""}, {"", "", ""}, {"ab"}, {"a", "b"}, {"b", "a"}, {"ab", ""}, {"", "ab"}, {"a", "", "b"}, {"", "a", "b"}, {"a", "b", ""}, {"\x00"}, {"\x00", ""}, {"\x80"}, {"a\x80"}, {"\x81\x01", "a"}}
	for _, parts := range [][]string{{"a"}, {"a", "b"}, {"", "ab"}} {
		lists = append(lists, []string{string(wire.Strings(parts))}, []string{string(wire.Strings(parts)[2:])})
	}
	type input struct {
		tag   int
		parts string
	}
	known := map[api.Digest]input{}
	for tag := range 256 {
		for _, parts := range lists {
			d, x := hash.Of(tag, parts...), input{tag, fmt.Sprintf("%q", parts)}
			if other, ok := known[d]; ok {
				t.Fatalf("P2.6: %v and %v have the same digest", other, x)
			}
			known[d] = x
		}
	}
}

func TestEqual(t *testing.T) {
	for _, x := range []struct {
		a, b string
		want bool
	}{
		{"", "", true}, {"ab", "ab", true}, {"ab", "ac", false}, {"", "a", false}, {"a", "", false}, {"ab", "cb", false},
		{"a", "ab", false}, {"ab", "a", false}, {"a", "a\x00", false}, {"\x00", "", false}, {"\x00", "\x00\x00", false},
		{"ab", "ba", false}, {"\x01\x01", "\x02\x02", false}, {"\x80\x80", "\x00\x00", false}, {"\x00\xff", "\xff\x00", false}, {"\xff\xff", "\xff\xff", true},
	} {
		if got := hash.Equal(x.a, x.b); got != x.want {
			t.Errorf("P2.5: Equal(%q, %q) = %v", x.a, x.b, got)
		}
	}
	for _, n := range []int{1, 16, 32, 100} {
		text := noise(7, n)
		if !hash.Equal(text, strings.Clone(text)) {
			t.Errorf("P2.5: %d bytes do not equal themselves", n)
		}
		for i := range n {
			for bit := range 8 {
				other := []byte(text)
				other[i] ^= 1 << bit
				if hash.Equal(text, string(other)) || hash.Equal(string(other), text) {
					t.Errorf("P2.5: of %d bytes, bit %d of byte %d does not count", n, bit, i)
				}
			}
		}
	}
}

// TestNoPanic calls everything with a stream that is not valid, too: its results are not specified, but that it has some is (P1).
func TestNoPanic(t *testing.T) {
	for _, n := range lengths() {
		var s hash.Stream
		if a, b := s.Add(noise(8, n)).Sum(), s.Add(noise(8, n)).Sum(); a != b {
			t.Errorf("P1: equal calls have different results for %d bytes", n)
		}
	}
}
