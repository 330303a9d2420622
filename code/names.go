package code

import (
	"strconv"

	"lampbearer/api"
)

const (
	pushes = 32
	dups   = 16
	swaps  = 16
	logs   = 3
)

// pushed is how many bytes op has behind it, where the code does not end ahead of that.
func pushed(op byte) int {
	if op < api.OpPush || op >= api.OpPush+pushes {
		return 0
	}
	return int(op-api.OpPush) + 1
}

// countedName is that of an operation, from the first push on, whose name says how many, or how deep.
func countedName(op byte) string {
	switch {
	case op < api.OpPush+pushes:
		return "push" + strconv.Itoa(pushed(op))
	case op < api.OpDup+dups:
		return "dup" + strconv.Itoa(int(op-api.OpDup)+1)
	case op < api.OpSwap+swaps:
		return "swap" + strconv.Itoa(int(op-api.OpSwap)+1)
	case op < api.OpLog+logs:
		return "log" + strconv.Itoa(int(op-api.OpLog))
	}
	return ""
}

// reckoningName is that of an operation that reckons with numbers, or stops.
func reckoningName(op byte) string {
	switch op {
	case api.OpStop:
		return "stop"
	case api.OpAdd:
		return "add"
	case api.OpMul:
		return "mul"
	case api.OpSub:
		return "sub"
	case api.OpDiv:
		return "div"
	case api.OpSdiv:
		return "sdiv"
	case api.OpMod:
		return "mod"
	case api.OpSmod:
		return "smod"
	case api.OpAddmod:
		return "addmod"
	case api.OpMulmod:
		return "mulmod"
	case api.OpExp:
		return "exp"
	case api.OpExtend:
		return "extend"
	}
	return ""
}

// bitName is that of an operation that holds words against each other, works on their bits, or sums bytes up.
func bitName(op byte) string {
	switch op {
	case api.OpLt:
		return "lt"
	case api.OpGt:
		return "gt"
	case api.OpSlt:
		return "slt"
	case api.OpSgt:
		return "sgt"
	case api.OpEq:
		return "eq"
	case api.OpZero:
		return "zero"
	case api.OpAnd:
		return "and"
	case api.OpOr:
		return "or"
	case api.OpXor:
		return "xor"
	case api.OpNot:
		return "not"
	case api.OpByte:
		return "byte"
	case api.OpShl:
		return "shl"
	case api.OpShr:
		return "shr"
	case api.OpSar:
		return "sar"
	case api.OpSum:
		return "sum"
	}
	return ""
}

// askingName is that of an operation that asks for what a message or a block has.
func askingName(op byte) string {
	switch op {
	case api.OpSelf:
		return "self"
	case api.OpMoney:
		return "money"
	case api.OpCaller:
		return "caller"
	case api.OpValue:
		return "value"
	case api.OpInword:
		return "inword"
	case api.OpInsize:
		return "insize"
	case api.OpIncopy:
		return "incopy"
	case api.OpCodesize:
		return "codesize"
	case api.OpBacksize:
		return "backsize"
	case api.OpBackcopy:
		return "backcopy"
	case api.OpTime:
		return "time"
	case api.OpNumber:
		return "number"
	case api.OpKeeper:
		return "keeper"
	}
	return ""
}

// placeName is that of an operation on a stack, a memory, slots, or places in code.
func placeName(op byte) string {
	switch op {
	case api.OpPop:
		return "pop"
	case api.OpLoad:
		return "load"
	case api.OpStore:
		return "store"
	case api.OpStore8:
		return "store8"
	case api.OpSlot:
		return "slot"
	case api.OpKeep:
		return "keep"
	case api.OpJump:
		return "jump"
	case api.OpBranch:
		return "branch"
	case api.OpPc:
		return "pc"
	case api.OpSize:
		return "size"
	case api.OpGas:
		return "gas"
	case api.OpLand:
		return "land"
	}
	return ""
}

// messageName is that of an operation that sends messages, or ends one.
func messageName(op byte) string {
	switch op {
	case api.OpMake:
		return "make"
	case api.OpCall:
		return "call"
	case api.OpReturn:
		return "return"
	case api.OpLook:
		return "look"
	case api.OpLend:
		return "lend"
	case api.OpRevert:
		return "revert"
	}
	return ""
}
