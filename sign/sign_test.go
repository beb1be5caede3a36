package sign_test

import (
	"crypto/hmac"
	"crypto/sha256"
	"encoding/hex"
	"math"
	"math/rand"
	"slices"
	"strings"
	"testing"

	"splicery/api"
	"splicery/sign"
	"splicery/wire"
)

const (
	size    = api.DigestSize
	longest = 1 << 20 // bytes of a message
)

// seed returns a seed, the same one in each run.
func seed(n byte) string {
	b := make([]byte, api.KeySize)
	for i := range b {
		b[i] = byte(i) + n
	}
	return string(b)
}

// filled returns a digest of one byte.
func filled(b byte) api.Digest {
	return api.Digest([]byte(strings.Repeat(string([]byte{b}), size)))
}

// noisy returns a digest.
func noisy(r *rand.Rand) api.Digest {
	var d api.Digest
	r.Read(d[:])
	return d
}

// of returns the bytes of a digest of parts by the words of P2.4.
func of(tag byte, parts ...string) string {
	b := []byte{tag}
	for _, part := range parts {
		b = append(b, wire.Bytes(part)...)
	}
	sum := sha256.Sum256(b)
	return string(sum[:size])
}

// digitsByRule returns the digits of a digest by the words of the chapter.
func digitsByRule(d api.Digest) []int {
	var l []int
	for _, b := range d {
		l = append(l, int(b)/64, int(b)/16%4, int(b)/4%4, int(b)%4)
	}
	sum := 0
	for _, x := range l {
		sum += 3 - x
	}
	return append(l, sum/64, sum/16%4, sum/4%4, sum%4)
}

// valueByRule returns the value of a chain at a height.
func valueByRule(seed string, i, c, height int) string {
	code := hmac.New(sha256.New, []byte(seed))
	code.Write(append([]byte("chain"), wire.Ints([]int{i, c})...))
	value := string(code.Sum(nil)[:size])
	for t := range height {
		value = of(11, string(wire.Ints([]int{i, c, t})), value)
	}
	return value
}

// levelsByRule returns the nodes of a tree, level by level.
func levelsByRule(seed string, height int) [][]string {
	levels := make([][]string, height+1)
	for i := range 1 << height {
		key := ""
		for c := range 68 {
			key += valueByRule(seed, i, c, 3)
		}
		levels[0] = append(levels[0], of(1, of(3, key)))
	}
	for l := range height {
		for k := range len(levels[l]) / 2 {
			levels[l+1] = append(levels[l+1], of(2, levels[l][2*k], levels[l][2*k+1]))
		}
	}
	return levels
}

// signByRule returns the signature of a message with the tree whose nodes are given.
func signByRule(seed string, levels [][]string, index int, message string) string {
	height := len(levels) - 1
	d := of(4, levels[height][0], string(wire.Int(index)), message)
	signature := string(wire.Int(index))
	for c, x := range digitsByRule(api.Digest([]byte(d))) {
		signature += valueByRule(seed, index, c, x)
	}
	for l := range height {
		signature += levels[l][index>>l^1]
	}
	return signature
}

// signed returns a public key and the signature of a message.
func signed(t *testing.T, seed string, height, index int, message string) (api.Digest, string) {
	t.Helper()
	public, e := sign.Public(seed, height)
	signature, e2 := sign.Sign(seed, height, index, message)
	if e != api.OK || e2 != api.OK {
		t.Fatalf("P3.1, P3.3: the errors of a tree of height %d and its key %d are %d and %d", height, index, e, e2)
	}
	return public, signature
}

// rejected checks that a signature is not accepted, with an error.
func rejected(t *testing.T, what string, public api.Digest, height int, message, signature string, want api.Errno) {
	t.Helper()
	if i, e := sign.Verify(public, height, message, signature); i != 0 || e != want {
		t.Errorf("P3.4: %s: Verify returns %d and the error %d, not 0 and %d", what, i, e, want)
	}
}

func TestConstants(t *testing.T) {
	if sign.Chains != 68 || sign.Top != 3 || sign.MaxHeight != 6 {
		t.Errorf("P3.1: the constants are %d, %d, %d", sign.Chains, sign.Top, sign.MaxHeight)
	}
}

func TestDigitsOfExamples(t *testing.T) {
	for _, x := range []struct {
		b           byte
		digit       int
		checksum    []int
		description string
	}{
		{0, 0, []int{3, 0, 0, 0}, "zero bytes"},
		{255, 3, []int{0, 0, 0, 0}, "bytes 255"},
		{85, 1, []int{2, 0, 0, 0}, "bytes 85"},
		{170, 2, []int{1, 0, 0, 0}, "bytes 170"},
		{27, -1, []int{1, 2, 0, 0}, "bytes 27"},
	} {
		got := sign.Digits(filled(x.b))
		want := slices.Repeat([]int{x.digit}, 64)
		if x.digit < 0 {
			want = slices.Repeat([]int{0, 1, 2, 3}, 16)
		}
		if !slices.Equal(got, append(want, x.checksum...)) {
			t.Errorf("P3.1: the digits of 16 %s are %v", x.description, got)
		}
	}
	got := sign.Digits(api.Digest{15: 1})
	if want := append(make([]int, 63), 1, 2, 3, 3, 3); !slices.Equal(got, want) {
		t.Errorf("P3.1: the digits of a digest that ends with 1 are %v", got)
	}
}

func TestDigits(t *testing.T) {
	r := rand.New(rand.NewSource(1))
	check := func(d api.Digest) {
		if got, want := sign.Digits(d), digitsByRule(d); !slices.Equal(got, want) {
			t.Errorf("P3.1: the digits of %x are %v, not %v", d, got, want)
		}
	}
	for i := range size {
		for b := range 256 {
			for _, d := range []api.Digest{{}, noisy(r)} {
				d[i] = byte(b)
				check(d)
			}
		}
	}
	for n := range 16 * 8 { // checksums of all sizes
		d := filled(255)
		for bit := range n {
			d[bit/8] &^= 1 << (bit % 8)
		}
		check(d)
	}
	first := sign.Digits(filled(27))
	clear(first)
	if second := sign.Digits(filled(27)); !slices.Equal(second, digitsByRule(filled(27))) {
		t.Errorf("P3.1: digits have become %v when others were changed", second)
	}
}

// TestPublicOfExamples has results of a program of its own, in another language.
func TestPublicOfExamples(t *testing.T) {
	for _, x := range []struct {
		seed   string
		height int
		want   string
	}{
		{seed(0), 0, "34335ccb59abc8791db889af959469da"},
		{seed(0), 1, "0fc631cae7e64cf562225c35cfcd999f"},
		{seed(0), 2, "dacfee2936148f190e1b5daad9eb3f61"},
		{seed(0), 6, "db69f89415ba612f8e9f6054ce1a9c51"},
		{strings.Repeat("\x00", 32), 0, "7f6e719701af754a6d3c1a28660f4be1"},
		{strings.Repeat("\xff", 32), 3, "88977d035ad9967628701f4b2b99677d"},
	} {
		if got, e := sign.Public(x.seed, x.height); hex.EncodeToString(got[:]) != x.want || e != api.OK {
			t.Errorf("P3.1: the public key of height %d is %x with the error %d, not %s", x.height, got, e, x.want)
		}
	}
}

func TestPublic(t *testing.T) {
	for height := range sign.MaxHeight + 1 {
		s := seed(byte(height))
		got, e := sign.Public(s, height)
		if want := levelsByRule(s, height)[height][0]; string(got[:]) != want || e != api.OK {
			t.Errorf("P3.1: the public key of height %d is %x with the error %d, not %x", height, got, e, want)
		}
		if again, e := sign.Public(strings.Clone(s), height); again != got || e != api.OK {
			t.Errorf("P3.1: the public key of height %d is another one when it is asked for again", height)
		}
	}
}

// wrongTrees are arguments that no tree has.
var wrongTrees = []struct {
	seed   string
	height int
}{
	{"", 0}, {seed(0)[:1], 1}, {seed(0)[:31], 0}, {seed(0)[:31], 6}, {seed(0) + "x", 0}, {seed(0) + "\x00", 3}, {seed(0) + seed(0), 2},
	{seed(0), -1}, {seed(0), 7}, {seed(0), 8}, {seed(0), 62}, {seed(0), 63}, {seed(0), 64}, {seed(0), math.MinInt}, {seed(0), math.MaxInt},
	{"", -1}, {seed(0)[:31], 7},
}

func TestPublicErrors(t *testing.T) {
	for _, x := range wrongTrees {
		if got, e := sign.Public(x.seed, x.height); got != (api.Digest{}) || e != api.ErrArg {
			t.Errorf("P3.1: a seed of %d bytes and the height %d give %x with the error %d", len(x.seed), x.height, got, e)
		}
	}
}

func TestDigestOfExamples(t *testing.T) {
	counted := api.Digest([]byte(seed(0)[:size]))
	for _, x := range []struct {
		public  api.Digest
		index   int
		message string
		want    string
	}{
		{api.Digest{}, 0, "", "17d0f09805992de91a34e146456a830d"},
		{counted, -1, "m", "2ee2408f06aa3ccd75a0cc6ebeb6e58f"},
		{filled(255), math.MaxInt, "\x00\x00\x00", "81294802b62e06114956aa1e00c5fd6f"},
	} {
		if got := sign.Digest(x.public, x.index, x.message); hex.EncodeToString(got[:]) != x.want {
			t.Errorf("P3.2: the digest of %q with the key %d is %x, not %s", x.message, x.index, got, x.want)
		}
	}
}

func TestDigest(t *testing.T) {
	r := rand.New(rand.NewSource(2))
	known := map[api.Digest]bool{}
	count := 0
	for _, index := range []int{0, 1, 63, 64, 255, 256, -1, -2, math.MaxInt, math.MinInt} {
		for _, message := range []string{"", "m", "\x00", "a longer message", strings.Repeat("x", 1000), strings.Repeat("x", longest+1)} {
			for _, public := range []api.Digest{{}, filled(255), noisy(r)} {
				got := sign.Digest(public, index, message)
				if want := of(4, string(public[:]), string(wire.Int(index)), message); string(got[:]) != want {
					t.Errorf("P3.2: the digest of %.20q with the key %d is %x, not %x", message, index, got, want)
				}
				known[got] = true
				count++
			}
		}
	}
	if len(known) != count {
		t.Errorf("P3.2: %d arguments have only %d digests", count, len(known))
	}
}

// TestSignOfExamples has results of a program of its own, in another language.
func TestSignOfExamples(t *testing.T) {
	for _, x := range []struct {
		height, index int
		message       string
		length        int
		begin, sum    string
	}{
		{0, 0, "", 1089, "800c521ea2048775545264ad9ec68a4fc680", "956852b9d235b56bd0ba16e2cd4d2d51a0978c9380aeed703a6c0e8b321923df"},
		{1, 1, "m", 1106, "810130792e592d737d754a554b91dc64a4f0", "c3ff7fe35cebcfdaa83cebdf24f23413cd2f0841786df0c3cdbc5911d11cda99"},
		{6, 63, "a message", 1186, "813f0a1b05b52a61df6d5f3d11393fc2dd7a", "5c46989ea6c601d4805b189e9cc9aa711b5e8552e28420d5a9edc47b88405377"},
	} {
		got, e := sign.Sign(seed(0), x.height, x.index, x.message)
		if e != api.OK || len(got) != x.length || hex.EncodeToString([]byte(got[:18])) != x.begin {
			t.Fatalf("P3.3: the signature of %q has the error %d, %d bytes, and begins with %.18x", x.message, e, len(got), got)
		}
		if sum := sha256.Sum256([]byte(got)); hex.EncodeToString(sum[:]) != x.sum {
			t.Errorf("P3.3: the signature of %q has the hash %x", x.message, sum)
		}
	}
}

// TestSign signs with each key of small trees, and with the first and the last ones of the greatest tree.
func TestSign(t *testing.T) {
	for height := range sign.MaxHeight + 1 {
		s := seed(byte(10 + height))
		levels := levelsByRule(s, height)
		public := api.Digest([]byte(levels[height][0]))
		for index := range 1 << height {
			if height == sign.MaxHeight && 1 < index && index < 62 && index%7 != 0 {
				continue
			}
			message := strings.Repeat("message ", index)
			got, e := sign.Sign(s, height, index, message)
			if want := signByRule(s, levels, index, message); got != want || e != api.OK {
				t.Fatalf("P3.3: the signature of the key %d of %d has the error %d, and the bytes %x", index, height, e, got)
			}
			if i, e := sign.Verify(public, height, message, got); i != index || e != api.OK {
				t.Errorf("P3.5: the signature of the key %d of %d gives %d with the error %d", index, height, i, e)
			}
			rejected(t, "another message", public, height, message+"n", got, api.ErrSign)
		}
	}
}

func TestExamples(t *testing.T) {
	public, signature := signed(t, seed(1), 1, 1, "m")
	if i, e := sign.Verify(public, 1, "m", signature); i != 1 || e != api.OK {
		t.Errorf("P3.4: Verify returns %d with the error %d", i, e)
	}
	rejected(t, "n", public, 1, "n", signature, api.ErrSign)
	rejected(t, "a height of 7", public, 7, "", "", api.ErrArg)
}

func TestSignErrors(t *testing.T) {
	long := strings.Repeat("m", longest+1)
	check := func(seed string, height, index int, message string, want api.Errno) {
		t.Helper()
		if got, e := sign.Sign(seed, height, index, message); got != "" || e != want {
			t.Errorf("P3.3: %d bytes of a seed, the height %d, the key %d and %d bytes give %d bytes with the error %d, not %d", len(seed), height, index, len(message), len(got), e, want)
		}
	}
	for _, x := range wrongTrees {
		for _, index := range []int{0, 1, -1, 64, math.MinInt} {
			check(x.seed, x.height, index, "m", api.ErrArg)
			check(x.seed, x.height, index, long, api.ErrArg)
		}
	}
	for height := range sign.MaxHeight + 1 {
		for _, index := range []int{1 << height, 1<<height + 1, 128, math.MaxInt, -1, -1 << height, math.MinInt} {
			check(seed(0), height, index, "m", api.ErrSpent)
			check(seed(0), height, index, long, api.ErrSpent)
		}
		check(seed(0), height, 0, long, api.ErrLimit)
		check(seed(0), height, 1<<height-1, long, api.ErrLimit)
		check(seed(0), height, 0, long+long, api.ErrLimit)
	}
}

func TestLongestMessage(t *testing.T) {
	message := strings.Repeat("m", longest)
	public, signature := signed(t, seed(2), 1, 1, message)
	if i, e := sign.Verify(public, 1, message, signature); i != 1 || e != api.OK {
		t.Errorf("P3.4: a message of 2^20 bytes gives %d with the error %d", i, e)
	}
	rejected(t, "a message of a byte less", public, 1, message[1:], signature, api.ErrSign)
	rejected(t, "a message of a byte more", public, 1, message+"m", signature, api.ErrLimit)
}

// TestVerifyErrors has arguments to which several errors apply.
func TestVerifyErrors(t *testing.T) {
	public, good := signed(t, seed(3), 2, 3, "m")
	long := strings.Repeat("m", longest+1)
	for _, height := range []int{-1, 7, 8, 63, 64, math.MinInt, math.MaxInt} {
		for _, signature := range []string{"", "\x89", good} {
			rejected(t, "a wrong height", public, height, "m", signature, api.ErrArg)
			rejected(t, "a wrong height and a long message", public, height, long, signature, api.ErrArg)
		}
	}
	for height := range sign.MaxHeight + 1 {
		for _, signature := range []string{"", "\x89", "\x80", good} {
			rejected(t, "a long message", public, height, long, signature, api.ErrLimit)
		}
	}
	rest := good[2:]
	for _, x := range []struct {
		begin string
		want  api.Errno
	}{
		{"\x89", api.ErrForm}, {"\xff", api.ErrForm}, {"\x00", api.ErrForm}, {"\x76", api.ErrForm},
		{"\x81\x00", api.ErrForm}, {"\x82\x00\x03", api.ErrForm}, {"\x88" + strings.Repeat("\xff", 8), api.ErrForm},
		{string(wire.Int(4)), api.ErrForm}, {string(wire.Int(5)), api.ErrForm}, {string(wire.Int(-1)), api.ErrForm}, {string(wire.Int(-4)), api.ErrForm},
		{string(wire.Int(math.MaxInt)), api.ErrForm}, {string(wire.Int(math.MinInt)), api.ErrForm},
		{string(wire.Int(0)), api.ErrSign}, {string(wire.Int(1)), api.ErrSign}, {string(wire.Int(2)), api.ErrSign},
	} {
		rejected(t, "the index "+hex.EncodeToString([]byte(x.begin)), public, 2, "m", x.begin+rest, x.want)
		rejected(t, "another message and the index "+hex.EncodeToString([]byte(x.begin)), public, 2, "n", x.begin+rest, x.want)
	}
	for _, x := range []struct {
		signature string
		want      api.Errno
	}{
		{"", api.ErrMore}, {"\x81", api.ErrMore}, {"\x82\x01", api.ErrMore}, {"\x88\x01\x01\x01", api.ErrMore}, {"\x7e", api.ErrMore},
		{"\x80", api.ErrForm}, {"\x81\x03", api.ErrForm}, {"\x7f", api.ErrForm}, {"\x81\x04", api.ErrForm},
	} {
		rejected(t, "only "+hex.EncodeToString([]byte(x.signature)), public, 2, "m", x.signature, x.want)
	}
}

// TestLengths shortens and extends signatures.
func TestLengths(t *testing.T) {
	for _, x := range []struct{ height, index int }{{0, 0}, {1, 0}, {2, 3}, {6, 63}} {
		public, good := signed(t, seed(4), x.height, x.index, "m")
		used := len(wire.Int(x.index))
		if want := used + (68+x.height)*16; len(good) != want {
			t.Errorf("P3.5: a signature of height %d has %d bytes, not %d", x.height, len(good), want)
		}
		for n := range len(good) {
			want := api.ErrForm
			if n < used {
				want = api.ErrMore
			}
			rejected(t, "a prefix", public, x.height, "m", good[:n], want)
		}
		for n := 1; n <= 100; n++ {
			rejected(t, "zeros behind it", public, x.height, "m", good+strings.Repeat("\x00", n), api.ErrForm)
			rejected(t, "its own bytes behind it", public, x.height, "m", good+good[:n], api.ErrForm)
		}
		for height := range sign.MaxHeight + 1 {
			if height != x.height {
				rejected(t, "another height", public, height, "m", good, api.ErrForm)
			}
		}
	}
}

// TestChanges changes each byte of a signature, and what it is for.
func TestChanges(t *testing.T) {
	for _, x := range []struct{ height, index int }{{0, 0}, {3, 2}, {3, 7}} {
		public, good := signed(t, seed(5), x.height, x.index, "m")
		for at := len(wire.Int(x.index)); at < len(good); at++ {
			for _, mask := range []byte{1, 128} {
				changed := []byte(good)
				changed[at] ^= mask
				rejected(t, "a changed byte", public, x.height, "m", string(changed), api.ErrSign)
			}
		}
		for bit := range size * 8 {
			other := public
			other[bit/8] ^= 1 << (bit % 8)
			rejected(t, "another public key", other, x.height, "m", good, api.ErrSign)
		}
		for _, message := range []string{"", "n", "m\x00", "mm", "M"} {
			rejected(t, "another message", public, x.height, message, good, api.ErrSign)
		}
		begin := string(wire.Int(x.index))
		rejected(t, "zeros", public, x.height, "m", begin+strings.Repeat("\x00", (68+x.height)*size), api.ErrSign)
		rejected(t, "zeros for a zero key", api.Digest{}, x.height, "m", begin+strings.Repeat("\x00", (68+x.height)*size), api.ErrSign)
	}
}

// TestOtherKeys verifies signatures with the keys of other signers, and with those of other trees of the same signer.
func TestOtherKeys(t *testing.T) {
	public, good := signed(t, seed(6), 2, 1, "m")
	_, other := signed(t, seed(7), 2, 1, "m")
	rejected(t, "the signature of another signer", public, 2, "m", other, api.ErrSign)
	_, next := signed(t, seed(6), 2, 2, "m")
	nodes := 1 + 68*size + 1 // where the nodes begin
	rejected(t, "the nodes of another key", public, 2, "m", good[:nodes]+next[nodes:], api.ErrSign)
	rejected(t, "the index of another key", public, 2, "m", next[:2]+good[2:], api.ErrSign)
	swapped := good[:nodes] + good[nodes+size:] + good[nodes:nodes+size]
	rejected(t, "nodes in another order", public, 2, "m", swapped, api.ErrSign)
	values := good[:2] + good[2+size:2+2*size] + good[2:2+size] + good[2+2*size:]
	rejected(t, "values in another order", public, 2, "m", values, api.ErrSign)
}

// forged reports whether a signature of another message follows from one by advancing its values.
func forged(from, to api.Digest) bool {
	less, greater := sign.Digits(from), sign.Digits(to)
	for c := range less {
		if less[c] > greater[c] {
			return false
		}
	}
	return true
}

func TestNoForgery(t *testing.T) {
	r := rand.New(rand.NewSource(3))
	check := func(a, b api.Digest) {
		t.Helper()
		if a != b && (forged(a, b) || forged(b, a)) {
			t.Errorf("P3.6: the digits of %x and %x are nowhere less, or nowhere greater", a, b)
		}
	}
	for range 2000 {
		a, b := noisy(r), noisy(r)
		check(a, b)
		c := a
		for range 1 + r.Intn(3) { // digests that differ little
			c[r.Intn(size)] ^= 1 << r.Intn(8)
		}
		check(a, c)
		up := a
		for i := range up {
			up[i] |= b[i]
		}
		check(a, up)
		check(api.Digest{}, a)
		check(filled(255), a)
	}
	check(api.Digest{}, filled(255))
}

// TestAdvanced advances the values of a signature to those that another message needs, where that is possible: at least one chain would have to go back (P3.6).
func TestAdvanced(t *testing.T) {
	s, index := seed(8), 1
	public, good := signed(t, s, 1, index, "m")
	for _, message := range []string{"n", "o", "p", "q", "r"} {
		have := sign.Digits(sign.Digest(public, index, "m"))
		need := sign.Digits(sign.Digest(public, index, message))
		forgery := good[:2]
		for c := range have {
			value := good[2+c*size : 2+(c+1)*size]
			for t := have[c]; t < need[c]; t++ {
				value = of(11, string(wire.Ints([]int{index, c, t})), value)
			}
			forgery += value
		}
		rejected(t, "advanced values", public, 1, message, forgery+good[2+68*size:], api.ErrSign)
	}
}

// TestNoPanic has signatures of chance, of which some have a right form.
func TestNoPanic(t *testing.T) {
	r := rand.New(rand.NewSource(4))
	for range 3000 {
		height := r.Intn(10) - 2
		n := r.Intn(20)
		if r.Intn(4) == 0 {
			n = (68 + height) * size
		}
		b := make([]byte, n)
		r.Read(b)
		signature := string(wire.Int(r.Intn(80)-8)) + string(b)
		if r.Intn(4) == 0 {
			signature = string(b)
		}
		public, message := noisy(r), string(b[:r.Intn(n+1)])
		i, e := sign.Verify(public, height, message, signature)
		if j, e2 := sign.Verify(public, height, message, signature); i != 0 || e == api.OK || i != j || e != e2 {
			t.Fatalf("P1: Verify of %x returns %d with the error %d, and then %d with the error %d", signature, i, e, j, e2)
		}
	}
}
