package sponge

import (
	"math/bits"

	"lampbearer/api"
)

// soaker has soaked up the whole blocks of a text; rest is what it was given behind them.
type soaker struct {
	state api.State
	rest  []byte
}

// take goes on with the text.
func (s *soaker) take(text []byte) {
	s.rest = eachBlock(append(s.rest, text...), s.soak)
}

// sum is what the text so far comes to; the marks go into a copy, so that the text may go on without them.
func (s *soaker) sum() api.Hash {
	end := soaker{state: s.state}
	eachBlock(Pad(s.rest), end.soak)
	return end.squeeze()
}

// soak stirs a block in.
func (s *soaker) soak(block []byte) {
	for i, c := range block {
		s.state[i/8] ^= uint64(c) << (8 * (i % 8))
	}
	s.state = Mix(s.state)
}

// squeeze has the bytes of the parts that blocks go into, the least byte of each first.
func (s *soaker) squeeze() api.Hash {
	var h api.Hash
	for i := range h {
		h[i] = byte(s.state[i/8] >> (8 * (i % 8)))
	}
	return h
}

// eachBlock hands the whole blocks of b to use, in turn, and answers what is left behind them.
func eachBlock(b []byte, use func(block []byte)) []byte {
	for len(b) >= blockSize {
		use(b[:blockSize])
		b = b[blockSize:]
	}
	return b
}

// paddedSize is the size of a text of n bytes with its two marks, in whole blocks.
func paddedSize(n int) int {
	return (n + 2 + blockSize - 1) / blockSize * blockSize
}

// turned is what part i of s is made greater by; it does not hang on part i itself.
func turned(s *api.State, i int) uint64 {
	mixed := s[(i+1)%len(s)] ^ s[(i+5)%len(s)]
	return bits.RotateLeft64(mixed, 5*i+3)
}
