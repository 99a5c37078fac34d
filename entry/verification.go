package entry

import (
	"quaestor/abi"
	"quaestor/api"
	"quaestor/desk"
	"quaestor/userop"
	"quaestor/word"
)

// verification is an operation's while it is made: what it has come to, and what was done by whom.
type verification struct {
	visit
	checked api.Checked
	events  [4][]api.Event
}

// step is a part of a verification. Its errors are the numbers of why it fails.
type step struct {
	name string
	take func(*verification) error
}

// steps are all, in their order.
func steps() []step {
	return []step{
		{"form", (*verification).open},
		{"sender", (*verification).find},
		{"factory", (*verification).deploy},
		{"validation", (*verification).validate},
		{"prefund", (*verification).prepay},
		{"nonce", (*verification).count},
		{"paymaster", (*verification).sponsor},
	}
}

// run takes all steps up to the first one that fails: the error tells which one, and why.
func (v *verification) run() error {
	for _, s := range steps() {
		if err := s.take(v); err != nil {
			return failure{s.name, err}
		}
	}
	return nil
}

// open looks at the operation alone.
func (v *verification) open() error {
	if errno := userop.Check(v.op); errno != api.OK {
		return errno
	}
	v.checked.Hash = userop.Hash(v.op, v.block.Chain)
	v.checked.Prefund = userop.Prefund(v.op)
	return nil
}

// find looks whether the sender is there, which is not so just where a factory is to make it.
func (v *verification) find() error {
	there := v.hasCode(v.op.Sender)
	switch {
	case v.op.HasFactory && there:
		return api.ErrEntryThere
	case !v.op.HasFactory && !there:
		return api.ErrEntryNone
	}
	return nil
}

// deploy lets the factory make the sender.
func (v *verification) deploy() error {
	x := v.op
	if !x.HasFactory {
		return nil
	}
	r := v.ask(api.RoleFactory, Maker(), x.Factory, x.FactoryData, x.VerifyGas)
	told, is := answer(r)
	switch {
	case !is:
		return api.ErrEntryCreate
	case told != word.Wide(x.Sender):
		return api.ErrEntrySender
	case !v.hasCode(x.Sender):
		return api.ErrEntryEmpty
	}
	v.checked.Deployed = true
	return nil
}

// validate asks the sender, with the gas that the factory has left.
func (v *verification) validate() error {
	question := userop.Validate(v.op, v.checked.Hash, v.missing())
	r := v.ask(api.RoleSender, desk.Self(), v.op.Sender, question, v.op.VerifyGas-v.used)
	told, is := answer(r)
	if !is {
		return api.ErrEntryRevert
	}
	v.checked.Account = userop.Spans(told)
	return nil
}

// missing is what the sender has to deposit yet.
func (v *verification) missing() api.Word {
	rest, covered := word.Sub(v.checked.Prefund, desk.Deposit(v.World, v.op.Sender))
	if v.op.HasPaymaster || covered {
		return api.Word{}
	}
	return rest
}

// prepay takes the prefund from a sender that pays for itself.
func (v *verification) prepay() error {
	if !v.op.HasPaymaster && !desk.Debit(v.World, v.op.Sender, v.checked.Prefund) {
		return api.ErrEntryFunds
	}
	return nil
}

// count uses the nonce up.
func (v *verification) count() error {
	if !desk.Use(v.World, v.op.Sender, v.op.Nonce) {
		return api.ErrEntryNonce
	}
	return nil
}

// sponsor takes the prefund from the paymaster, and asks it.
func (v *verification) sponsor() error {
	x, most := v.op, v.checked.Prefund
	switch {
	case !x.HasPaymaster:
		return nil
	case !v.hasCode(x.Paymaster):
		return api.ErrEntryPayNone
	case !desk.Debit(v.World, x.Paymaster, most):
		return api.ErrEntryDeposit
	}
	r := v.ask(api.RolePaymaster, desk.Self(), x.Paymaster, userop.Sponsor(x, v.checked.Hash, most), x.PayVerifyGas)
	told, errno := abi.Decode([]bool{true, false}, r.Out)
	if r.Status != api.DoneOK || errno != api.OK {
		return api.ErrEntryPayer
	}
	v.checked.Context, v.checked.Payer = told[0].Bytes, userop.Spans(told[1].Word)
	return nil
}

// ask is what a call comes to of one who takes part, whose events are kept.
func (v *verification) ask(role uint8, from, to api.Address, data []byte, gas uint64) api.Result {
	r, events := v.call(from, to, data, gas)
	v.events[role] = events
	return r
}

// answer is the word that a call answers first; false: it fails, or answers less.
func answer(r api.Result) (api.Word, bool) {
	if r.Status != api.DoneOK || len(r.Out) < 32 {
		return api.Word{}, false
	}
	return word.Read(r.Out[:32]), true
}
