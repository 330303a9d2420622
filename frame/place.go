package frame

import (
	"bytes"
	"slices"

	"lampbearer/api"
	"lampbearer/code"
	"lampbearer/word"
)

// placed is op, if it works on the stack, on the memory, or on places in the code; one without Do, if it is none of these.
func (f *Frame) placed(op byte) Operation {
	switch op {
	case api.OpPop:
		return Operation{1, 0, func() { f.Pop() }}
	case api.OpLoad:
		return f.of1(f.load)
	case api.OpStore:
		return Operation{2, 0, f.store}
	case api.OpStore8:
		return Operation{2, 0, f.storeByte}
	case api.OpJump:
		return Operation{1, 0, func() { f.jump(f.Pop()) }}
	case api.OpBranch:
		return Operation{2, 0, f.branch}
	case api.OpPc:
		return f.giving(func() uint64 { return uint64(f.at) })
	case api.OpSize:
		return f.giving(func() uint64 { return uint64(f.memory.Size()) })
	case api.OpGas:
		return f.giving(f.Gas)
	case api.OpLand:
		return Operation{Do: func() {}}
	}
	return Operation{}
}

// push is the operation that gives the word of the n bytes behind it.
func (f *Frame) push(n int) Operation {
	return Operation{0, 1, func() {
		// Where the code ends too early, noughts stand behind what there is, not ahead of it.
		b := make([]byte, n)
		copy(b, f.code[f.at+1:])
		f.Push(word.Read(b))
	}}
}

// dup is the operation that gives the word that is n deep once more.
func (f *Frame) dup(n int) Operation {
	return Operation{n, n + 1, func() { f.Push(f.stack[len(f.stack)-n]) }}
}

// swap is the operation that changes the top word with the one that is n below it.
func (f *Frame) swap(n int) Operation {
	return Operation{n + 1, n + 1, func() {
		top := len(f.stack) - 1
		f.stack[top], f.stack[top-n] = f.stack[top-n], f.stack[top]
	}}
}

// ending is op, if it ends the frame with an Out; one without Do, if it does not.
func (f *Frame) ending(op byte) Operation {
	switch op {
	case api.OpReturn:
		return Operation{2, 0, func() { f.end(api.OK) }}
	case api.OpRevert:
		return Operation{2, 0, func() { f.end(api.ErrRevert) }}
	}
	return Operation{}
}

// stop ends the frame well, without an Out.
func (f *Frame) stop() {
	panic(ended{})
}

// end ends the frame so, with a part of its memory as its Out.
func (f *Frame) end(err api.Errno) {
	at, n := f.Pop(), f.Pop()
	panic(ended{err, bytes.Clone(f.Touch(at, n, nothing))})
}

// jump goes on at a place at which there is a land.
func (f *Frame) jump(to api.Word) {
	if !f.isLanding(to) {
		Fail(api.ErrJump)
	}
	f.next = int(to[0])
}

// branch jumps, if its second word is not 0.
func (f *Frame) branch() {
	to, c := f.Pop(), f.Pop()
	if c != (api.Word{}) {
		f.jump(to)
	}
}

// isLanding is whether there is something to land on at the place to.
func (f *Frame) isLanding(to api.Word) bool {
	if word.Cmp(to, word.Int(uint64(len(f.code)))) >= 0 {
		return false
	}
	// Code that does not jump need not be gone through, and code that does, once.
	if f.landings == nil {
		f.landings = code.Landings(f.code)
	}
	_, ok := slices.BinarySearch(f.landings, int(to[0]))
	return ok
}
