package code

import "quaestor/ops"

// single is what Info tells of the operations that are not one of many of a kind.
func single(op byte) (int, int, bool) {
	switch op {
	case ops.Stop, ops.JumpDest:
		return 0, 0, true
	case ops.Address, ops.Origin, ops.Caller, ops.CallValue, ops.CallDataSize, ops.CodeSize, ops.GasPrice, ops.ReturnDataSize,
		ops.CoinBase, ops.Timestamp, ops.Number, ops.PrevRandao, ops.GasLimit, ops.ChainID, ops.SelfBalance, ops.BaseFee,
		ops.PC, ops.MSize, ops.Gas:
		return 0, 1, true
	case ops.Pop, ops.Jump, ops.SelfDestruct:
		return 1, 0, true
	case ops.IsZero, ops.Not, ops.Balance, ops.CallDataLoad, ops.ExtCodeSize, ops.ExtCodeHash, ops.BlockHash, ops.MLoad, ops.SLoad:
		return 1, 1, true
	case ops.MStore, ops.MStore8, ops.SStore, ops.JumpI, ops.Return, ops.Revert:
		return 2, 0, true
	case ops.Add, ops.Mul, ops.Sub, ops.Div, ops.SDiv, ops.Mod, ops.SMod, ops.Exp, ops.SignExtend,
		ops.Lt, ops.Gt, ops.SLt, ops.SGt, ops.Eq, ops.And, ops.Or, ops.Xor, ops.Byte, ops.Shl, ops.Shr, ops.Sar,
		ops.Keccak256:
		return 2, 1, true
	case ops.CallDataCopy, ops.CodeCopy, ops.ReturnDataCopy:
		return 3, 0, true
	case ops.AddMod, ops.MulMod, ops.Create:
		return 3, 1, true
	case ops.ExtCodeCopy:
		return 4, 0, true
	case ops.Create2:
		return 4, 1, true
	case ops.DelegateCall, ops.StaticCall:
		return 6, 1, true
	case ops.Call, ops.CallCode:
		return 7, 1, true
	}
	return 0, 0, false
}
