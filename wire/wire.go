// Package wire encodes values as bytes (layer 1, shared/doc/01-wire.md).
package wire

import (
	"math"

	"splicery/api"
)

// The first byte of an integer says its sign and how many bytes follow.
const (
	firstUp   = 128 // the first byte of 0; a longer number has a greater one
	firstDown = 127 // the first byte of -1; a longer number has a smaller one
	maxDigits = 8   // bytes that may follow the first one
)

// Int returns the encoding of an integer.
func Int(n int) []byte { return appendInt(nil, n) }

// GetInt decodes an integer at the beginning of a byte sequence.
func GetInt(b []byte) (int, int, api.Errno) {
	if len(b) == 0 {
		return 0, 0, api.ErrMore
	}
	negative, k := b[0] <= firstDown, int(b[0])-firstUp
	if negative {
		k = firstDown - int(b[0])
	}
	if k > maxDigits {
		return 0, 0, api.ErrForm
	}
	if len(b)-1 < k {
		return 0, 0, api.ErrMore
	}
	m := magnitude(b[1:1+k], negative)
	if m > math.MaxInt64 || k > 0 && m>>(8*(k-1)) == 0 {
		return 0, 0, api.ErrForm
	}
	n := int(m)
	if negative {
		n = -1 - n
	}
	return n, 1 + k, api.OK
}

// Bytes returns the encoding of a byte string.
func Bytes(s string) []byte { return appendBytes(nil, s) }

// GetBytes decodes a byte string at the beginning of a byte sequence.
func GetBytes(b []byte) (string, int, api.Errno) {
	n, used, e := getLength(b, 1)
	if e != api.OK {
		return "", 0, e
	}
	return string(b[used : used+n]), used + n, api.OK
}

// Ints returns the encoding of a list of integers.
func Ints(l []int) []byte {
	b := Int(len(l))
	for _, n := range l {
		b = appendInt(b, n)
	}
	return b
}

// GetInts decodes a list of integers at the beginning of a byte sequence.
func GetInts(b []byte) ([]int, int, api.Errno) { return getList(b, 1, GetInt) }

// Strings returns the encoding of a list of byte strings.
func Strings(l []string) []byte {
	b := Int(len(l))
	for _, s := range l {
		b = appendBytes(b, s)
	}
	return b
}

// GetStrings decodes a list of byte strings at the beginning of a byte sequence.
func GetStrings(b []byte) ([]string, int, api.Errno) { return getList(b, 1, GetBytes) }

// Digests returns the encoding of a list of digests.
func Digests(l []api.Digest) []byte {
	b := Int(len(l))
	for _, d := range l {
		b = append(b, d[:]...)
	}
	return b
}

// GetDigests decodes a list of digests at the beginning of a byte sequence.
func GetDigests(b []byte) ([]api.Digest, int, api.Errno) {
	return getList(b, api.DigestSize, func(rest []byte) (api.Digest, int, api.Errno) {
		return api.Digest(rest[:api.DigestSize]), api.DigestSize, api.OK
	})
}

// appendInt appends the encoding of an integer.
func appendInt(b []byte, n int) []byte {
	m := n
	if n < 0 {
		m = -1 - n // not -n, which the least integer does not have
	}
	first := len(b)
	b = append(b, 0)
digits:
	for shift := 8 * (maxDigits - 1); shift >= 0; shift -= 8 {
		digit := byte(m >> shift)
		switch {
		case digit == 0 && len(b) == first+1:
			continue digits // leading zeros would make a second, longer encoding
		case n < 0:
			b = append(b, 255-digit)
		default:
			b = append(b, digit)
		}
	}
	k := len(b) - first - 1
	b[first] = byte(firstUp + k)
	if n < 0 {
		b[first] = byte(firstDown - k)
	}
	return b
}

// appendBytes appends the encoding of a byte string.
func appendBytes(b []byte, s string) []byte {
	return append(appendInt(b, len(s)), s...)
}

// magnitude returns the number that digits are in base 256; those of a negative integer are subtracted from 255.
func magnitude(digits []byte, negative bool) uint64 {
	m := uint64(0)
	for _, digit := range digits {
		if negative {
			digit = 255 - digit
		}
		m = m<<8 | uint64(digit)
	}
	return m
}

// getLength decodes the number of elements that follow, each of which has at least so many bytes as least says.
func getLength(b []byte, least int) (int, int, api.Errno) {
	n, used, e := GetInt(b)
	if e != api.OK {
		return 0, 0, e
	}
	if n < 0 {
		return 0, 0, api.ErrForm
	}
	// Not n*least > len(b)-used: the product of a forged length can wrap around.
	if n > (len(b)-used)/least {
		return 0, 0, api.ErrMore
	}
	return n, used, api.OK
}

// getList decodes the length of a list, and then its elements with get. If all elements have just the length least, get need not ask whether enough bytes are left.
func getList[T any](b []byte, least int, get func(rest []byte) (T, int, api.Errno)) ([]T, int, api.Errno) {
	n, used, e := getLength(b, least)
	if e != api.OK {
		return nil, 0, e
	}
	next := func() (T, api.Errno) {
		x, k, e := get(b[used:])
		used += k
		return x, e
	}
	l := make([]T, n) // getLength has found room for n elements in b, so a forged length reserves nothing
	for i := range l {
		if l[i], e = next(); e != api.OK {
			return nil, 0, e
		}
	}
	return l, used, api.OK
}
