package entry

import (
	"slices"

	"quaestor/api"
	"quaestor/desk"
	"quaestor/keccak"
	"quaestor/userop"
	"quaestor/word"
)

// How the paymaster is told that the operation did what it was for, or failed.
const (
	succeeded uint64 = iota
	failed
)

// execution is an operation's, whose verification has come to checked, while it is made.
type execution struct {
	visit
	checked api.Checked
}

// run does what the operation is for, and tells the paymaster; false: one of both has failed.
func (e *execution) run() bool {
	mark := e.Mark()
	success := len(e.op.CallData) == 0 || e.tell(e.op.Sender, e.op.CallData, e.op.CallGas)
	if !e.post(success) {
		e.Back(mark) // what the paymaster does not agree to is not done
		return false
	}
	return success
}

// post tells a paymaster that wants to know it what was done; false: it fails.
func (e *execution) post(success bool) bool {
	if !e.op.HasPaymaster || len(e.checked.Context) == 0 {
		return true
	}
	mode := failed
	if success {
		mode = succeeded
	}
	cost, _ := word.Mul(word.From(e.gas()), e.price())
	return e.tell(e.op.Paymaster, userop.Post(mode, e.checked.Context, cost, e.price()), e.op.PostGas)
}

// gas is what was used until now, by the verification, too.
func (e *execution) gas() uint64 { return e.checked.Used + e.used }

// bill is what the operation comes to. A tenth of what was asked for in vain is to be paid, too.
func (e *execution) bill(success bool) api.Paid {
	gas := e.gas() + (e.op.CallGas+e.op.PostGas-e.used)/10
	cost, over := word.Mul(word.From(gas), e.price())
	if over || word.Cmp(cost, e.checked.Prefund) > 0 {
		cost = e.checked.Prefund
	}
	return api.Paid{Hash: e.checked.Hash, Success: success, Gas: gas, Cost: cost}
}

// settle gives back what was paid ahead and is not needed, and logs what was done.
func (e *execution) settle(p api.Paid) {
	rest, _ := word.Sub(e.checked.Prefund, p.Cost)
	desk.Credit(e.World, e.payer(), rest)
	e.Log(api.Log{
		Addr: desk.Self(),
		Topics: []api.Word{
			keccak.Sum([]byte("UserOperationEvent(bytes32,address,address,uint256,bool,uint256,uint256)")),
			p.Hash,
			word.Wide(e.op.Sender),
			word.Wide(e.op.Paymaster),
		},
		Data: slices.Concat(word.Bytes(e.op.Nonce), word.Bytes(truth(p.Success)), word.Bytes(p.Cost), word.Bytes(word.From(p.Gas))),
	})
}

// payer is who has paid the prefund.
func (e *execution) payer() api.Address {
	if e.op.HasPaymaster {
		return e.op.Paymaster
	}
	return e.op.Sender
}

// truth is a bool as a word.
func truth(is bool) api.Word {
	if is {
		return word.From(1)
	}
	return api.Word{}
}
