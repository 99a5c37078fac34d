package vm

import (
	"quaestor/api"
	"quaestor/fees"
	"quaestor/ops"
	"quaestor/word"
)

// never is what costs more than any gas, and may be added to what anything costs.
const never uint64 = 1 << 62

// cost is what an operation costs that needs memory of a size.
func (f *frame) cost(a *action, size uint64) uint64 {
	gas := fees.Base(a.Op) + f.growth(size)
	if isLog(a.Op) {
		return gas + 8*a.words[1][0]
	}
	return gas + f.extra(a)
}

// extra is what an operation costs by what it is done to. The lengths of its ranges are known to be those of memory.
func (f *frame) extra(a *action) uint64 {
	w := &a.words
	var gas uint64
	switch a.Op {
	case ops.Exp:
		return fees.Exp(w[1])
	case ops.Keccak256:
		return 6 * fees.Words(w[1][0])
	case ops.ExtCodeCopy:
		return f.access(w[0]) + 3*fees.Words(w[3][0])
	case ops.CallDataCopy, ops.CodeCopy, ops.ReturnDataCopy:
		return 3 * fees.Words(w[2][0])
	case ops.Balance, ops.ExtCodeSize, ops.ExtCodeHash:
		return f.access(w[0])
	case ops.SLoad:
		return f.loading(w[0])
	case ops.SStore:
		return f.storing(w[0], w[1])
	case ops.Create2:
		gas = 6 * fees.Words(w[2][0])
		fallthrough
	case ops.Create:
		return gas + creating(w[2][0])
	case ops.Call:
		gas = f.reviving(w[1], w[2])
		fallthrough
	case ops.CallCode, ops.DelegateCall, ops.StaticCall:
		return gas + f.access(w[1]) + paying(w[2])
	case ops.SelfDestruct:
		return f.destroying(w[0])
	}
	return 0
}

// access is what it costs to reach an account.
func (f *frame) access(a api.Word) uint64 {
	if f.Touch(word.Addr(a)) {
		return 100
	}
	return 2600
}

func (f *frame) loading(key api.Word) uint64 {
	if f.TouchSlot(f.self, key) {
		return 100
	}
	return 2100
}

func (f *frame) storing(key, v api.Word) uint64 {
	if f.gas <= 2300 {
		return never
	}
	warm := f.TouchSlot(f.self, key)
	gas, _ := fees.Store(f.Original(f.self, key), f.Slot(f.self, key), v, !warm)
	return gas
}

// creating is what it costs to run so many bytes that make an account.
func creating(size uint64) uint64 {
	if size > api.MaxInit {
		return never
	}
	return 2 * fees.Words(size)
}

// paying is what it costs that a call has a value.
func paying(v api.Word) uint64 {
	if v == (api.Word{}) {
		return 0
	}
	return 9000
}

// reviving is what it costs that a value is paid to an account which does not exist.
func (f *frame) reviving(a, v api.Word) uint64 {
	if v == (api.Word{}) || f.There(word.Addr(a)) {
		return 0
	}
	return 25000
}

func (f *frame) destroying(heir api.Word) uint64 {
	gas := f.reviving(heir, f.Balance(f.self))
	if !f.Touch(word.Addr(heir)) {
		gas += 2600
	}
	return gas
}
