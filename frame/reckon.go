package frame

import (
	"lampbearer/api"
	"lampbearer/pack"
	"lampbearer/twos"
	"lampbearer/word"
)

const expByteCost = 10

// reckoning is op, if it reckons with numbers; one without Do, if it is none of these.
func (f *Frame) reckoning(op byte) Operation {
	switch op {
	case api.OpStop:
		return Operation{Do: f.stop}
	case api.OpAdd:
		return f.of2(word.Add)
	case api.OpMul:
		return f.of2(word.Mul)
	case api.OpSub:
		return f.of2(word.Sub)
	case api.OpDiv:
		return f.of2(first(word.DivMod))
	case api.OpSdiv:
		return f.of2(first(twos.SDivMod))
	case api.OpMod:
		return f.of2(second(word.DivMod))
	case api.OpSmod:
		return f.of2(second(twos.SDivMod))
	case api.OpAddmod:
		return f.of3(word.AddMod)
	case api.OpMulmod:
		return f.of3(word.MulMod)
	case api.OpExp:
		return f.of2(f.exp)
	case api.OpExtend:
		return f.of2(twos.Extend)
	}
	return Operation{}
}

// bits is op, if it holds words against each other, or works on their bits; one without Do, if it is none of these.
func (f *Frame) bits(op byte) Operation {
	switch op {
	case api.OpLt:
		return f.of2(is(word.Cmp, -1))
	case api.OpGt:
		return f.of2(is(word.Cmp, 1))
	case api.OpSlt:
		return f.of2(is(twos.SCmp, -1))
	case api.OpSgt:
		return f.of2(is(twos.SCmp, 1))
	case api.OpEq:
		return f.of2(is(word.Cmp, 0))
	case api.OpZero:
		return f.of1(isZero)
	case api.OpAnd:
		return f.of2(twos.And)
	case api.OpOr:
		return f.of2(twos.Or)
	case api.OpXor:
		return f.of2(twos.Xor)
	case api.OpNot:
		return f.of1(twos.Not)
	case api.OpByte:
		return f.of2(twos.Byte)
	case api.OpShl:
		return f.of2(twos.Shl)
	case api.OpShr:
		return f.of2(twos.Shr)
	case api.OpSar:
		return f.of2(twos.Sar)
	}
	return Operation{}
}

// first gives the quotient of what divides.
func first(divide func(a, b api.Word) (q, r api.Word)) func(a, b api.Word) api.Word {
	return func(a, b api.Word) api.Word {
		q, _ := divide(a, b)
		return q
	}
}

// second gives the rest of what divides.
func second(divide func(a, b api.Word) (q, r api.Word)) func(a, b api.Word) api.Word {
	return func(a, b api.Word) api.Word {
		_, r := divide(a, b)
		return r
	}
}

// is gives whether two words are held against each other with that outcome.
func is(compare func(a, b api.Word) int, outcome int) func(a, b api.Word) api.Word {
	return func(a, b api.Word) api.Word { return truth(compare(a, b) == outcome) }
}

func isZero(a api.Word) api.Word { return truth(a == api.Word{}) }

// truth is 1 of what is so, else 0.
func truth(so bool) api.Word {
	if so {
		return word.Int(1)
	}
	return api.Word{}
}

// exp pays for the bytes of b ahead of reckoning.
func (f *Frame) exp(a, b api.Word) api.Word {
	f.Pay(expByteCost * uint64(len(pack.Num(b))))
	return word.Exp(a, b)
}
