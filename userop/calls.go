package userop

import (
	"slices"

	"quaestor/abi"
	"quaestor/api"
	"quaestor/word"
)

// packed is how the type of an operation is written in the names of calls.
const packed = "(address,uint256,bytes,bytes,bytes32,uint256,bytes32,bytes,bytes)"

// Validate is the call by which an account is asked.
func Validate(x api.UserOp, hash, missing api.Word) []byte {
	return question("validateUserOp", x, hash, missing)
}

// Sponsor is the call by which a paymaster is asked.
func Sponsor(x api.UserOp, hash, most api.Word) []byte {
	return question("validatePaymasterUserOp", x, hash, most)
}

// Post is the call by which a paymaster is told.
func Post(mode uint64, context []byte, cost, price api.Word) []byte {
	l := []api.Part{{Word: word.From(mode)}, data(context), {Word: cost}, {Word: price}}
	return slices.Concat(abi.Selector("postOp(uint8,bytes,uint256,uint256)"), abi.Encode(l))
}

// question is a call that tells an operation, its hash and an amount. The operation is the tail of the first argument: its offset stands for it.
func question(name string, x api.UserOp, hash, amount api.Word) []byte {
	heads := abi.Encode([]api.Part{{Word: word.From(3 * 32)}, {Word: hash}, {Word: amount}})
	return slices.Concat(abi.Selector(name+"("+packed+",bytes32,uint256)"), heads, abi.Encode(Pack(x)))
}
