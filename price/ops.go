package price

import "lampbearer/api"

const (
	pushes = 32
	dups   = 16
	swaps  = 16
	logs   = 3
)

// isOneOf is whether op is one of count operations, the first of which is first.
func isOneOf(op, first, count byte) bool {
	return op >= first && op-first < count
}

// isStackCopy is whether op is a push, a dup or a swap.
func isStackCopy(op byte) bool {
	return isOneOf(op, api.OpPush, pushes) || isOneOf(op, api.OpDup, dups) || isOneOf(op, api.OpSwap, swaps)
}

func isLog(op byte) bool {
	return isOneOf(op, api.OpLog, logs)
}

// singleCost is what op costs, being none of those that are told by a count; 0, if there is no such operation.
func singleCost(op byte) uint64 {
	switch op {
	case api.OpLand:
		return 1
	case api.OpPop, api.OpPc, api.OpSize, api.OpGas, api.OpSelf, api.OpCaller, api.OpValue, api.OpInsize,
		api.OpCodesize, api.OpBacksize, api.OpTime, api.OpNumber, api.OpKeeper:
		return 2
	case api.OpAdd, api.OpSub, api.OpLt, api.OpGt, api.OpSlt, api.OpSgt, api.OpEq, api.OpZero, api.OpAnd, api.OpOr,
		api.OpXor, api.OpNot, api.OpByte, api.OpShl, api.OpShr, api.OpSar, api.OpInword, api.OpIncopy,
		api.OpBackcopy, api.OpLoad, api.OpStore, api.OpStore8:
		return 3
	case api.OpMul, api.OpDiv, api.OpSdiv, api.OpMod, api.OpSmod, api.OpExtend:
		return 5
	case api.OpAddmod, api.OpMulmod, api.OpJump:
		return 8
	case api.OpBranch, api.OpExp:
		return 10
	case api.OpSum:
		return 30
	case api.OpSlot:
		return 50
	case api.OpMoney, api.OpKeep:
		return 100
	case api.OpCall, api.OpLook, api.OpLend:
		return 200
	case api.OpMake:
		return 500
	}
	// The chapter prices stop, return and revert at 0, the same as what has no name: neither needs a case.
	return 0
}
