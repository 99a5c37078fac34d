// Package ops has the names of bytecode's operations. Several layers tell operations apart, and not all of them may import package code.
package ops

const (
	Stop byte = iota
	Add
	Mul
	Sub
	Div
	SDiv
	Mod
	SMod
	AddMod
	MulMod
	Exp
	SignExtend
)

const (
	Lt byte = 0x10 + iota
	Gt
	SLt
	SGt
	Eq
	IsZero
	And
	Or
	Xor
	Not
	Byte
	Shl
	Shr
	Sar
)

const Keccak256 byte = 0x20

const (
	Address byte = 0x30 + iota
	Balance
	Origin
	Caller
	CallValue
	CallDataLoad
	CallDataSize
	CallDataCopy
	CodeSize
	CodeCopy
	GasPrice
	ExtCodeSize
	ExtCodeCopy
	ReturnDataSize
	ReturnDataCopy
	ExtCodeHash
	BlockHash
	CoinBase
	Timestamp
	Number
	PrevRandao
	GasLimit
	ChainID
	SelfBalance
	BaseFee
)

const (
	Pop byte = 0x50 + iota
	MLoad
	MStore
	MStore8
	SLoad
	SStore
	Jump
	JumpI
	PC
	MSize
	Gas
	JumpDest
)

// Of those that are many, the first one and the last.
const (
	Push0  byte = 0x5f
	Push32 byte = 0x7f
	Dup1   byte = 0x80
	Dup16  byte = 0x8f
	Swap1  byte = 0x90
	Swap16 byte = 0x9f
	Log0   byte = 0xa0
	Log4   byte = 0xa4
)

const (
	Create byte = 0xf0 + iota
	Call
	CallCode
	Return
	DelegateCall
	Create2
)

const (
	StaticCall   byte = 0xfa
	Revert       byte = 0xfd
	SelfDestruct byte = 0xff
)
