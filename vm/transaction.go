package vm

import (
	"quaestor/api"
	"quaestor/desk"
	"quaestor/fees"
	"quaestor/store"
	"quaestor/word"
)

// last is the nonce behind which there is none.
const last = 1<<64 - 1

// unfit is why a message may not be a transaction; OK: it may.
func unfit(w *store.World, b api.Block, m api.Message) api.Errno {
	switch {
	case m.Gas > b.GasLimit || m.Gas > api.MaxGas:
		return api.ErrLimit
	case fees.Intrinsic(m.Data, m.Create) > m.Gas:
		return api.ErrVMGas
	case word.Cmp(m.Price, b.BaseFee) < 0 || !covers(w, m):
		return api.ErrVMFunds
	case m.Create && len(m.Data) > api.MaxInit:
		return api.ErrVMCode
	case len(w.Code(m.From)) > 0 || w.Nonce(m.From) == last:
		return api.ErrArg
	}
	return api.OK
}

// covers says whether the sender has what a message may cost.
func covers(w *store.World, m api.Message) bool {
	gas, over := word.Mul(word.From(m.Gas), m.Price)
	sum, more := word.Add(gas, m.Value)
	return !over && !more && word.Cmp(sum, w.Balance(m.From)) <= 0
}

// open takes the price of all gas from the sender, and touches who takes part in any case.
func open(w *store.World, b api.Block, m api.Message) {
	to := m.To
	if m.Create {
		to = Made(m.From, w.Nonce(m.From))
	} else {
		w.SetNonce(m.From, w.Nonce(m.From)+1)
	}
	rest, _ := word.Sub(w.Balance(m.From), price(m.Gas, m.Price))
	w.SetBalance(m.From, rest)
	for _, a := range []api.Address{m.From, to, b.Coinbase, desk.Self(), hasher, copier} {
		w.Touch(a)
	}
}

// transact does a message whose gas is paid for, and pays what it is owed for that: what it comes to, and the gas that counts as used.
func (m *machine) transact(x api.Message) (api.Result, uint64) {
	all := x.Gas
	x.Gas -= fees.Intrinsic(x.Data, x.Create)
	r := m.do(x)
	used := all - r.Gas
	back := fees.Back(used, uint64(max(0, m.Refunds())))
	r.Gas += back
	used -= back
	tip, _ := word.Sub(m.price, m.block.BaseFee)
	m.give(x.From, price(r.Gas, m.price))
	m.give(m.block.Coinbase, price(used, tip))
	return r, used
}

// price is that of some gas.
func price(gas uint64, each api.Word) api.Word {
	p, _ := word.Mul(word.From(gas), each)
	return p
}

// give lets an account have more.
func (m *machine) give(a api.Address, v api.Word) {
	sum, _ := word.Add(m.Balance(a), v)
	m.SetBalance(a, sum)
}
