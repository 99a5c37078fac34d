package fees

import "quaestor/ops"

// single is what Base tells of the operations that are not one of many of a kind; those that are left out cost nothing, or by what they do.
func single(op byte) uint64 {
	switch op {
	case ops.JumpDest:
		return 1
	case ops.Address, ops.Origin, ops.Caller, ops.CallValue, ops.CallDataSize, ops.CodeSize, ops.GasPrice, ops.ReturnDataSize,
		ops.CoinBase, ops.Timestamp, ops.Number, ops.PrevRandao, ops.GasLimit, ops.ChainID, ops.BaseFee,
		ops.Pop, ops.PC, ops.MSize, ops.Gas, ops.Push0:
		return 2
	case ops.Add, ops.Sub, ops.Lt, ops.Gt, ops.SLt, ops.SGt, ops.Eq, ops.IsZero,
		ops.And, ops.Or, ops.Xor, ops.Not, ops.Byte, ops.Shl, ops.Shr, ops.Sar,
		ops.CallDataLoad, ops.CallDataCopy, ops.CodeCopy, ops.ReturnDataCopy, ops.MLoad, ops.MStore, ops.MStore8:
		return 3
	case ops.Mul, ops.Div, ops.SDiv, ops.Mod, ops.SMod, ops.SignExtend, ops.SelfBalance:
		return 5
	case ops.AddMod, ops.MulMod, ops.Jump:
		return 8
	case ops.Exp, ops.JumpI:
		return 10
	case ops.BlockHash:
		return 20
	case ops.Keccak256:
		return 30
	case ops.SelfDestruct:
		return 5000
	case ops.Create, ops.Create2:
		return 32000
	}
	return 0
}
