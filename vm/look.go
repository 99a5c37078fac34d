package vm

import (
	"quaestor/api"
	"quaestor/keccak"
	"quaestor/ops"
	"quaestor/word"
)

// looked is what an operation finds in the frame, or in the World.
func (f *frame) looked(a *action) api.Word {
	switch a.Op {
	case ops.Address:
		return word.Wide(f.self)
	case ops.Origin:
		return word.Wide(f.origin)
	case ops.Caller:
		return word.Wide(f.caller)
	case ops.CallValue:
		return f.value
	case ops.CallDataLoad:
		var b [32]byte
		fill(b[:], f.data, a.words[0])
		return word.Read(b[:])
	case ops.CallDataSize:
		return size(f.data)
	case ops.CodeSize:
		return size(f.code)
	case ops.GasPrice:
		return f.price
	case ops.ReturnDataSize:
		return size(f.back)
	case ops.PC:
		return word.From(a.at)
	case ops.MSize:
		return size(f.memory)
	case ops.Gas:
		return word.From(f.gas)
	case ops.SLoad:
		return f.Slot(f.self, a.Arg)
	}
	return f.ofAccount(a.Op, word.Addr(a.Arg))
}

// ofAccount is what an operation finds about an account.
func (f *frame) ofAccount(op byte, who api.Address) api.Word {
	switch op {
	case ops.SelfBalance:
		who = f.self
		fallthrough
	case ops.Balance:
		return f.Balance(who)
	case ops.ExtCodeSize:
		return size(f.Code(who))
	case ops.ExtCodeHash:
		if f.There(who) {
			return f.hashes.of(f.Code(who), keccak.Sum)
		}
	}
	return api.Word{}
}

// ofBlock is what an operation finds about the block.
func ofBlock(b *api.Block, op byte, of api.Word) api.Word {
	switch op {
	case ops.BlockHash:
		if n, small := word.Small(of); small && n < b.Number && b.Number-n <= 256 {
			return keccak.Join(of)
		}
	case ops.CoinBase:
		return word.Wide(b.Coinbase)
	case ops.Timestamp:
		return word.From(b.Time)
	case ops.Number:
		return word.From(b.Number)
	case ops.PrevRandao:
		return b.Random
	case ops.GasLimit:
		return word.From(b.GasLimit)
	case ops.ChainID:
		return b.Chain
	case ops.BaseFee:
		return b.BaseFee
	}
	return api.Word{}
}

// size is a length as a word.
func size(b []byte) api.Word { return word.From(uint64(len(b))) }
