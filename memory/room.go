package memory

import (
	"lampbearer/api"
	"lampbearer/word"
)

// Room is a memory: at first it has no bytes, and always a multiple of wordBytes.
type Room struct {
	bytes []byte
}

// Size is how many bytes r has.
func (r *Room) Size() int { return len(r.bytes) }

// Touch makes r have n bytes at a place, and answers these, which are r's own, with what it cost to grow; ErrMuch, if no memory has them.
func (r *Room) Touch(at, n api.Word) (part []byte, cost uint64, err api.Errno) {
	s, err := spanOf(at, n)
	if err != api.OK {
		return nil, 0, err
	}
	cost = r.grow(s.to)
	return r.part(s), cost, api.OK
}

// span is a part of a memory that may be touched; that of no bytes begins at 0, wherever it was asked for.
type span struct {
	from, to int
}

// spanOf is the span of n bytes at a place; ErrMuch, if no memory has them.
func spanOf(at, n api.Word) (span, api.Errno) {
	if n == (api.Word{}) {
		return span{}, api.OK
	}
	most := word.Int(api.MaxMemory)
	// The sum of both may be more than a word holds, and so the place is held against what n leaves.
	if word.Cmp(n, most) > 0 || word.Cmp(at, word.Sub(most, n)) > 0 {
		return span{}, api.ErrMuch
	}
	from := int(at[0])
	return span{from, from + int(n[0])}, api.OK
}

// touched is how many bytes op touches at each of its places; ErrKind, if there is no such op.
func touched(op api.MemOp) (api.Word, api.Errno) {
	switch op.Kind {
	case api.MemLoad, api.MemStore:
		return word.Int(wordBytes), api.OK
	case api.MemByte:
		return word.Int(1), api.OK
	case api.MemCopy:
		return op.Len, api.OK
	case api.MemPut:
		return word.Int(uint64(len(op.Data))), api.OK
	}
	return api.Word{}, api.ErrKind
}

// spansOf are the spans that op touches: that At, and that From, which is one of no bytes if op has none.
func spansOf(op api.MemOp) (at, from span, err api.Errno) {
	n, err := touched(op)
	if err != api.OK {
		return span{}, span{}, err
	}
	if op.Kind == api.MemCopy {
		if from, err = spanOf(op.From, n); err != api.OK {
			return span{}, span{}, err
		}
	}
	if at, err = spanOf(op.At, n); err != api.OK {
		return span{}, span{}, err
	}
	return at, from, api.OK
}

// do does op, and tells what comes of it. All its spans are known ahead of growing, so that one that fails changes nothing.
func (r *Room) do(op api.MemOp) api.MemAns {
	at, from, err := spansOf(op)
	if err != api.OK {
		return api.MemAns{Err: err}
	}
	ans := api.MemAns{Cost: r.grow(max(at.to, from.to))}
	switch op.Kind {
	case api.MemLoad:
		ans.Word = word.Read(r.part(at))
	case api.MemStore:
		b := word.Bytes(op.Word)
		copy(r.part(at), b[:])
	case api.MemByte:
		r.part(at)[0] = byte(op.Word[0])
	case api.MemCopy:
		copy(r.part(at), r.part(from))
	case api.MemPut:
		copy(r.part(at), op.Data)
	}
	return ans
}

// grow makes the memory have the bytes up to end, if it has fewer, and tells what that costs.
func (r *Room) grow(end int) uint64 {
	were, words := r.words(), (end+wordBytes-1)/wordBytes
	if words <= were {
		return 0
	}
	r.bytes = append(r.bytes, make([]byte, (words-were)*wordBytes)...)
	return Cost(words) - Cost(were)
}

func (r *Room) words() int { return len(r.bytes) / wordBytes }

// part is the memory's own bytes of s, to which it has grown.
func (r *Room) part(s span) []byte { return r.bytes[s.from:s.to] }
