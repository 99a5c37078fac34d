package store

import (
	"quaestor/api"
	"quaestor/word"
)

// account is what an address has beside its slots. Its code is a string, so that accounts can be compared, and Copies may have it in common.
type account struct {
	nonce   uint64
	balance api.Word
	code    string
}

// bytes is the code as new memory.
func (x account) bytes() []byte { return append([]byte(nil), x.code...) }

// There says whether an account has a nonce, a balance, or code.
func (w *World) There(a api.Address) bool { return w.accounts[whole(a)] != account{} }

func (w *World) Nonce(a api.Address) uint64 { return w.accounts[whole(a)].nonce }

func (w *World) Balance(a api.Address) api.Word { return w.accounts[whole(a)].balance }

func (w *World) Code(a api.Address) []byte { return w.accounts[whole(a)].bytes() }

func (w *World) Slot(a api.Address, key api.Word) api.Word { return w.slots[slotOf(a, key)] }

func (w *World) SetNonce(a api.Address, n uint64) {
	w.change(a, func(x *account) { x.nonce = n })
}

func (w *World) SetBalance(a api.Address, v api.Word) {
	w.change(a, func(x *account) { x.balance = v })
}

func (w *World) SetCode(a api.Address, code []byte) {
	w.change(a, func(x *account) { x.code = string(code) })
}

// change does something to an account.
func (w *World) change(a api.Address, do func(x *account)) {
	p := whole(a)
	x := w.accounts[p]
	w.note(step{kind: changedAccount, place: p, account: x})
	do(&x)
	put(w.accounts, p, x)
}

func (w *World) SetSlot(a api.Address, key, v api.Word) {
	p := slotOf(a, key)
	before := w.slots[p]
	if _, is := w.originals[p]; !is {
		w.originals[p] = before
	}
	w.note(step{kind: changedSlot, place: p, slot: before})
	put(w.slots, p, v)
}

// Pay moves an amount; false: there is not so much.
func (w *World) Pay(from, to api.Address, v api.Word) bool {
	rest, below := word.Sub(w.Balance(from), v)
	if below {
		return false
	}
	w.SetBalance(from, rest)
	sum, _ := word.Add(w.Balance(to), v) // asked behind the first change, as both may be the same account
	w.SetBalance(to, sum)
	return true
}
