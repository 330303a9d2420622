package word

import (
	"math/bits"

	"lampbearer/api"
)

// wide is a whole number of 512 bits, part 0 the least: room for the whole sum and the whole product of two words.
type wide [8]uint64

// rest is what is left of a wide in a division, with room for moving it up by less than a part.
type rest [9]uint64

// widen is a, with carry as the part above it.
func widen(a api.Word, carry uint64) wide {
	return wide{a[0], a[1], a[2], a[3], carry}
}

// low is w, rest 2^256.
func (w wide) low() api.Word {
	return api.Word{w[0], w[1], w[2], w[3]}
}

// bitLength is how many bits a has without noughts ahead.
func bitLength(a api.Word) int {
	for i := len(a) - 1; i >= 0; i-- {
		if a[i] != 0 {
			return 64*i + bits.Len64(a[i])
		}
	}
	return 0
}

// sum is a + b, rest 2^256, and what is carried over.
func sum(a, b api.Word) (s api.Word, carry uint64) {
	for i := range s {
		s[i], carry = bits.Add64(a[i], b[i], carry)
	}
	return s, carry
}

// product is the whole product of a and b.
func product(a, b api.Word) wide {
	var p wide
	for i := range a {
		var carry uint64
		for j := range b {
			carry, p[i+j] = multiplyAdd(a[i], b[j], p[i+j], carry)
		}
		p[i+len(b)] = carry
	}
	return p
}

// multiplyAdd is x times y + c + d, which two parts always have room for.
func multiplyAdd(x, y, c, d uint64) (high, low uint64) {
	high, low = bits.Mul64(x, y)
	low, carry := bits.Add64(low, c, 0)
	high += carry
	low, carry = bits.Add64(low, d, 0)
	return high + carry, low
}

// divide is the quotient, rounded down, and the rest of a by b; 0 and 0, if b is 0.
func divide(a wide, b api.Word) (q wide, r api.Word) {
	if b == (api.Word{}) {
		return
	}
	// Both are moved up until the divisor's uppermost bit is set: then its uppermost part alone tells
	// each part of the quotient, or too much by no more than two.
	n := (bitLength(b) + 63) / 64
	shift := bits.LeadingZeros64(b[n-1])
	b = Mul(b, Int(1<<shift))
	left := movedUp(a, shift)
	for j := len(q) - n; j >= 0; j-- {
		q[j] = left.takeOff(b, n, j)
	}
	return q, left.movedDown(shift)
}

// movedUp is a times 2^shift, shift being less than 64.
func movedUp(a wide, shift int) rest {
	var l rest
	var carry uint64
	for i := range a {
		carry, l[i] = multiplyAdd(a[i], 1<<shift, carry, 0)
	}
	l[len(a)] = carry
	return l
}

// movedDown is l through 2^shift, shift being less than 64, and l less than 2^(256 + shift).
func (l *rest) movedDown(shift int) api.Word {
	var r api.Word
	for i := range r {
		r[i] = l[i]>>shift | l[i+1]<<(64-shift)
	}
	return r
}

// takeOff takes b, which has n parts, moved up by j parts, off l as often as it goes, and says how often.
// The parts of l from j on are less than b moved up by one part.
func (l *rest) takeOff(b api.Word, n, j int) uint64 {
	times := guess(l[j+n], l[j+n-1], b[n-1])
	var carry, borrow uint64
	for i := range n {
		var low uint64
		carry, low = multiplyAdd(times, b[i], carry, 0)
		l[j+i], borrow = bits.Sub64(l[j+i], low, borrow)
	}
	l[j+n], borrow = bits.Sub64(l[j+n], carry, borrow)
	for borrow == 1 {
		times--
		borrow -= l.putBack(b, n, j)
	}
	return times
}

// putBack adds b, which has n parts, moved up by j parts, to l, and says what is carried over.
func (l *rest) putBack(b api.Word, n, j int) (carry uint64) {
	for i := range n {
		l[j+i], carry = bits.Add64(l[j+i], b[i], carry)
	}
	l[j+n], carry = bits.Add64(l[j+n], 0, carry)
	return carry
}

// guess is the quotient of the two parts high and low by b; where a part has no room for it, the greatest one.
func guess(high, low, b uint64) uint64 {
	if high >= b {
		return 1<<64 - 1
	}
	q, _ := bits.Div64(high, low, b)
	return q
}
