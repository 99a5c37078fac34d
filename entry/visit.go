package entry

import (
	"quaestor/api"
	"quaestor/desk"
	"quaestor/store"
	"quaestor/userop"
	"quaestor/vm"
)

// visit is what the entry point does for an operation: on a World, which it changes.
type visit struct {
	*store.World
	block  api.Block
	origin api.Address
	op     api.UserOp
	used   uint64 // gas, by the calls
}

// price is what the operation pays for gas.
func (v *visit) price() api.Word { return userop.Price(v.op, v.block.BaseFee) }

// call is what a call comes to, and what was done.
func (v *visit) call(from, to api.Address, data []byte, gas uint64) (api.Result, []api.Event) {
	m := api.Message{From: from, To: to, Data: data, Gas: gas, Price: v.price()}
	r, events := vm.Call(v.World, v.block, v.origin, m)
	v.used += gas - r.Gas
	return r, events
}

// tell is whether an account takes a call of the entry point whose answer does not count.
func (v *visit) tell(to api.Address, data []byte, gas uint64) bool {
	r, _ := v.call(desk.Self(), to, data, gas)
	return r.Status == api.DoneOK
}

// hasCode says whether an account has code.
func (v *visit) hasCode(a api.Address) bool { return len(v.Code(a)) > 0 }
