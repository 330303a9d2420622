// Package word: whole numbers of 256 bits; see doc/01-word.md.
package word

import (
	"cmp"
	"math/bits"

	"lampbearer/api"
)

// Add is a + b, rest 2^256.
func Add(a, b api.Word) api.Word {
	s, _ := sum(a, b)
	return s
}

// Sub is a - b, rest 2^256.
func Sub(a, b api.Word) api.Word {
	var d api.Word
	var borrow uint64
	for i := range d {
		d[i], borrow = bits.Sub64(a[i], b[i], borrow)
	}
	return d
}

// Mul is a times b, rest 2^256.
func Mul(a, b api.Word) api.Word {
	return product(a, b).low()
}

// DivMod is the quotient, rounded down, and the rest of a by b; 0 and 0, if b is 0.
func DivMod(a, b api.Word) (q, r api.Word) {
	wq, r := divide(widen(a, 0), b)
	return wq.low(), r
}

// AddMod is the rest of the whole sum of a and b by m; 0, if m is 0.
func AddMod(a, b, m api.Word) api.Word {
	_, r := divide(widen(sum(a, b)), m)
	return r
}

// MulMod is the rest of the whole product of a and b by m; 0, if m is 0.
func MulMod(a, b, m api.Word) api.Word {
	_, r := divide(product(a, b), m)
	return r
}

// Exp is the product of b factors a, rest 2^256; 1, if b is 0.
func Exp(a, b api.Word) api.Word {
	p := Int(1)
	// Squaring from the uppermost bit down keeps it to 256 rounds at most, however great b is.
	for i := bitLength(b) - 1; i >= 0; i-- {
		p = Mul(p, p)
		if b[i/64]>>(i%64)&1 == 1 {
			p = Mul(p, a)
		}
	}
	return p
}

// Cmp is -1, if a is less than b, 0, if they are the same, else 1.
func Cmp(a, b api.Word) int {
	for i := len(a) - 1; i >= 0; i-- {
		if c := cmp.Compare(a[i], b[i]); c != 0 {
			return c
		}
	}
	return 0
}

// Int is n as a word.
func Int(n uint64) api.Word {
	return api.Word{n}
}

// Bytes has the 32 bytes of a, the greatest first.
func Bytes(a api.Word) api.Hash {
	var h api.Hash
	for i := range h {
		place := len(h) - 1 - i
		h[i] = byte(a[place/8] >> (8 * (place % 8)))
	}
	return h
}

// Read is the number whose bytes, the greatest first, are the last 32 of b; where b has fewer, those ahead are 0.
func Read(b []byte) api.Word {
	var a api.Word
	for place := range min(len(b), len(api.Hash{})) {
		a[place/8] |= uint64(b[len(b)-1-place]) << (8 * (place % 8))
	}
	return a
}
