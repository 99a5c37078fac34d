package entry_test

import (
	"math/big"
	"slices"
	"strconv"

	"quaestor/abi"
	"quaestor/api"
	"quaestor/desk"
	"quaestor/sample"
	"quaestor/store"
	"quaestor/vm"
	"quaestor/word"
)

const most uint64 = 1<<64 - 1

// assemble is the code of a text.
var assemble = sample.Assembler()

// at is an address that is a small number.
func at(n uint64) api.Address { return word.Addr(word.From(n)) }

// Who takes part in most tests: me is the sender, others are who may be one, too.
var (
	me, other   = at(0xa1), at(0xa2)
	factory     = at(0xfa)
	payer       = at(0xba)
	beneficiary = at(0xbe)
	self        = desk.Self()
	fine        = answering(make([]byte, 32))
)

// exact is a word as an exact number.
func exact(a api.Word) *big.Int { return new(big.Int).SetBytes(word.Bytes(a)) }

// wide is an exact number modulo 2^256.
func wide(v *big.Int) api.Word {
	return word.Read(new(big.Int).Mod(v, new(big.Int).Lsh(big.NewInt(1), 256)).Bytes())
}

func digits(b []byte) string { return sample.Digits(b) }

func number(n uint64) string { return strconv.FormatUint(n, 10) }

// block has a different value wherever it may have one; its base fee and the tip of plain make a price of 14.
func block() api.Block {
	return api.Block{Number: 300, Time: 7, GasLimit: 1 << 30, BaseFee: api.Word{11}, Chain: api.Word{12}, Random: api.Word{13, 1}, Coinbase: at(0xc0)}
}

// plain is an operation of me that does nothing, and pays for itself.
func plain() api.UserOp {
	return api.UserOp{Sender: me, CallGas: 300000, VerifyGas: 400000, PreGas: 5000, MaxFee: api.Word{20}, MaxTip: api.Word{3}}
}

// sponsored is one for which the paymaster pays.
func sponsored() api.UserOp {
	x := plain()
	x.HasPaymaster, x.Paymaster, x.PayVerifyGas, x.PostGas = true, payer, 500000, 200000
	return x
}

// deployed is one whose sender the factory makes by its first creation.
func deployed() api.UserOp {
	x := plain()
	x.Sender, x.HasFactory, x.Factory = vm.Made(factory, 0), true, factory
	return x
}

// full is one that has all.
func full() api.UserOp {
	x := sponsored()
	x.Sender, x.HasFactory, x.Factory = vm.Made(factory, 0), true, factory
	x.FactoryData, x.CallData, x.PayData, x.Sig = sample.Noise(33, 1), sample.Noise(70, 2), sample.Noise(31, 3), sample.Noise(65, 4)
	return x
}

// prefund is what an operation may cost, as a number.
func prefund(x api.UserOp) uint64 {
	return (x.CallGas + x.VerifyGas + x.PreGas + x.PayVerifyGas + x.PostGas) * x.MaxFee[0]
}

// party is an account with code, and what it has deposited.
type party struct {
	addr    api.Address
	code    []byte
	deposit uint64
}

// worldOf has accounts with code; the entry point covers their deposits.
func worldOf(l ...party) *store.World {
	var entries []api.Entry
	var sum uint64
	for _, p := range l {
		entries = append(entries, api.Entry{Addr: p.addr, Account: api.Account{Balance: api.Word{100}, Code: p.code}})
		sum += p.deposit
	}
	w := store.New(append(entries, api.Entry{Addr: self, Account: api.Account{Balance: word.From(sum)}}))
	for _, p := range l {
		desk.Credit(w, p.addr, word.From(p.deposit))
	}
	w.Begin()
	return w
}

// rich is a deposit that suffices for all that is done.
const rich = 1 << 40

// writing is the text that writes bytes to the beginning of memory.
func writing(b []byte) string {
	text := ""
	for i, piece := range slices.Collect(slices.Chunk(b, 32)) {
		piece = append(slices.Clone(piece), make([]byte, 32-len(piece))...)
		text += digits(piece) + " " + number(uint64(32*i)) + " MSTORE "
	}
	return text
}

// answering is code that answers bytes.
func answering(b []byte) []byte { return assemble(ending(b, "RETURN")) }

// ending is the text that ends with bytes, by RETURN or REVERT.
func ending(b []byte, how string) string {
	return writing(b) + number(uint64(len(b))) + " 0 " + how
}

// telling is code that answers a word.
func telling(a api.Word) []byte { return answering(word.Bytes(a)) }

// sponsoring is what a paymaster answers.
func sponsoring(context []byte, a api.Word) []byte {
	return abi.Encode([]api.Part{{Dynamic: true, Bytes: context}, {Word: a}})
}

// either is code that does one thing where a condition holds, and else another; both jump nowhere.
func either(condition string, yes, no []byte) []byte {
	head := assemble(condition)
	to := len(head) + 5 + len(no)
	return slices.Concat(head, assemble(push2(to)+" JUMPI"), no, []byte{0x00, 0x5b}, yes)
}

// push2 is the text that pushes a number, always by as many bytes.
func push2(n int) string { return "#61" + digits([]byte{byte(n >> 8), byte(n)})[2:] }

// asked is where an account is called to validate, and sponsors where a paymaster is called to sponsor: calls of other kinds are short ones in these tests, and begin otherwise.
const (
	asked    = "0 CALLDATALOAD 224 SHR 0x19822f7c EQ"
	sponsors = "0 CALLDATALOAD 224 SHR 0x52b7512c EQ"
)

// noting is the text that notes in slots what a frame sees: see noted.
const noting = "GAS 0 SSTORE CALLER 1 SSTORE ORIGIN 2 SSTORE GASPRICE 3 SSTORE CALLVALUE 4 SSTORE CALLDATASIZE 5 SSTORE CALLDATASIZE 0 0 CALLDATACOPY CALLDATASIZE 0 KECCAK256 6 SSTORE ADDRESS 7 SSTORE "

// making is a factory's code that makes an account with code, and answers its address.
func making(code []byte) []byte { return factoryOf(code, "", "0 MSTORE 32 0 RETURN") }

// factoryOf is a factory's code that makes an account with code; the texts are what it does ahead of that, and behind it, when the address is on the stack.
func factoryOf(code []byte, ahead, behind string) []byte {
	init := runs(code)
	text := func(offset int) string {
		return ahead + push2(len(init)) + " " + push2(offset) + " 0 CODECOPY " + push2(len(init)) + " 0 0 CREATE " + behind
	}
	return append(assemble(text(len(assemble(text(0))))), init...)
}

// runs is code of a creation that makes an account with code.
func runs(code []byte) []byte {
	text := func(offset int) string { return push2(len(code)) + " DUP1 " + push2(offset) + " 0 CODECOPY 0 RETURN" }
	return append(assemble(text(len(assemble(text(0))))), code...)
}
