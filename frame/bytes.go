package frame

import (
	"lampbearer/api"
	"lampbearer/price"
	"lampbearer/sponge"
	"lampbearer/word"
)

const (
	wordBytes    = 32
	sumWordCost  = 6
	copyWordCost = 3
)

// asking is op, if it sums bytes up, or asks for what the frame was given; one without Do, if it is none of these.
func (f *Frame) asking(op byte) Operation {
	switch op {
	case api.OpSum:
		return f.of2(f.sum)
	case api.OpInword:
		return f.of1(f.inputWord)
	case api.OpInsize:
		return f.giving(func() uint64 { return uint64(len(f.input)) })
	case api.OpIncopy:
		return Operation{3, 0, f.copyInput}
	case api.OpCodesize:
		return f.giving(func() uint64 { return uint64(len(f.code)) })
	}
	return Operation{}
}

// nothing is what a touch costs for which no more is paid.
func nothing(uint64) uint64 { return 0 }

// PerWord is what a touch costs for which so much more is paid for each word of its bytes.
func PerWord(cost uint64) func(n uint64) uint64 {
	return func(n uint64) uint64 { return cost * price.Words(n) }
}

func (f *Frame) sum(at, n api.Word) api.Word {
	h := sponge.Sum(f.Touch(at, n, PerWord(sumWordCost)))
	return word.Read(h[:])
}

func (f *Frame) inputWord(at api.Word) api.Word {
	var b [wordBytes]byte
	fill(b[:], f.input, at)
	return word.Read(b[:])
}

func (f *Frame) copyInput() {
	at, from, n := f.Pop(), f.Pop(), f.Pop()
	fill(f.Touch(at, n, PerWord(copyWordCost)), f.input, from)
}

// fill makes to the bytes of text from a place on, and noughts where text has ended.
func fill(to, text []byte, from api.Word) {
	n := 0
	// A place may be more than an int holds: it is one where text has bytes.
	if word.Cmp(from, word.Int(uint64(len(text)))) < 0 {
		n = copy(to, text[from[0]:])
	}
	clear(to[n:])
}

func (f *Frame) load(at api.Word) api.Word {
	return word.Read(f.Touch(at, word.Int(wordBytes), nothing))
}

func (f *Frame) store() {
	at, a := f.Pop(), f.Pop()
	b := word.Bytes(a)
	copy(f.Touch(at, word.Int(wordBytes), nothing), b[:])
}

func (f *Frame) storeByte() {
	at, a := f.Pop(), f.Pop()
	f.Touch(at, word.Int(1), nothing)[0] = byte(a[0])
}
