package twos

import (
	"lampbearer/api"
	"lampbearer/word"
)

const (
	partBits  = 64
	wordBits  = 256
	wordBytes = 32
	signBit   = 1 << (partBits - 1) // of the uppermost part
)

// partByPart is what join makes of the parts of a and b in the same place.
func partByPart(a, b api.Word, join func(x, y uint64) uint64) api.Word {
	var out api.Word
	for i := range out {
		out[i] = join(a[i], b[i])
	}
	return out
}

// part is part i of a; 0 where a has none.
func part(a api.Word, i int) uint64 {
	if i < 0 || i >= len(a) {
		return 0
	}
	return a[i]
}

// atMost is n, or most, if n is more.
func atMost(n api.Word, most uint64) uint64 {
	if word.Cmp(n, word.Int(most)) > 0 {
		return most
	}
	return n[0]
}

// split is how many whole parts, and how many bits beside, a shift by n goes; from 256 on all shifts are the same.
func split(n api.Word) (parts int, places uint64) {
	far := atMost(n, wordBits)
	return int(far / partBits), far % partBits
}

// belowNought is whether a, with its sign, is less than 0.
func belowNought(a api.Word) bool {
	return a[len(a)-1] >= signBit
}

// size is a, with its sign, without it: -2^255 is its own, since 2^255 is what stands for it.
func size(a api.Word) api.Word {
	if belowNought(a) {
		return Neg(a)
	}
	return a
}
