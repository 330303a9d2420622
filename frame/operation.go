package frame

import (
	"lampbearer/api"
	"lampbearer/word"
)

const (
	pushes = 32
	dups   = 16
	swaps  = 16
)

// Operation is what a frame has to do, by Do, with so many words that it takes and gives: Do is called where they are there, and there is room for them. Without Do it is none.
type Operation struct {
	Takes, Gives int
	Do           func()
}

// Host is where a frame runs: it has the operations that hang on a world.
type Host interface {
	// Operation is the one of that number that hangs on a world; one without Do, if there is none.
	Operation(op byte) Operation
}

// alone is where there is no world.
type alone struct{}

func (alone) Operation(byte) Operation { return Operation{} }

// operation is op, the frame's own or host's; one without Do, if there is none.
func (f *Frame) operation(op byte, host Host) Operation {
	own := f.own(op)
	if own.Do == nil {
		return host.Operation(op)
	}
	return own
}

// own is op, if it hangs on the frame alone; else one without Do.
func (f *Frame) own(op byte) Operation {
	switch {
	case op < api.OpLt:
		return f.reckoning(op)
	case op < api.OpSum:
		return f.bits(op)
	case op < api.OpPop:
		return f.asking(op)
	case op < api.OpPush:
		return f.placed(op)
	case op < api.OpPush+pushes:
		return f.push(int(op-api.OpPush) + 1)
	case op < api.OpDup+dups:
		return f.dup(int(op-api.OpDup) + 1)
	case op < api.OpSwap+swaps:
		return f.swap(int(op-api.OpSwap) + 1)
	}
	return f.ending(op)
}

// of1 is the operation that gives what one word comes to.
func (f *Frame) of1(give func(a api.Word) api.Word) Operation {
	return Operation{1, 1, func() { f.Push(give(f.Pop())) }}
}

// of2 is the operation that gives what two words come to, the top one first.
func (f *Frame) of2(give func(a, b api.Word) api.Word) Operation {
	return Operation{2, 1, func() {
		a, b := f.Pop(), f.Pop()
		f.Push(give(a, b))
	}}
}

// of3 is the operation that gives what three words come to, the top one first.
func (f *Frame) of3(give func(a, b, m api.Word) api.Word) Operation {
	return Operation{3, 1, func() {
		a, b, m := f.Pop(), f.Pop(), f.Pop()
		f.Push(give(a, b, m))
	}}
}

// giving is the operation that gives a number.
func (f *Frame) giving(tell func() uint64) Operation {
	return Operation{0, 1, func() { f.Push(word.Int(tell())) }}
}
