package desk

import (
	"math/bits"

	"quaestor/api"
	"quaestor/word"
)

// service is a call that the entry point knows.
type service struct {
	name  string // with the kinds of its arguments
	asks  bool   // it changes nothing
	takes bool   // it takes a value
	do    func(v visit, a []api.Word) ([]byte, error)
}

// services are those that have a selector.
func services() []service {
	return []service{
		{name: "depositTo(address)", takes: true, do: visit.depositTo},
		{name: "balanceOf(address)", asks: true, do: visit.balanceOf},
		{name: "getNonce(address,uint192)", asks: true, do: visit.getNonce},
		{name: "incrementNonce(uint192)", do: visit.incrementNonce},
		{name: "addStake(uint32)", takes: true, do: visit.addStake},
		{name: "unlockStake()", do: visit.unlockStake},
		{name: "withdrawStake(address)", do: visit.withdrawStake},
		{name: "withdrawTo(address,uint256)", do: visit.withdrawTo},
	}
}

// plain is the one that the empty input asks for.
func plain() service { return service{name: "receive()", takes: true, do: visit.receive} }

func (v visit) receive([]api.Word) ([]byte, error) {
	Credit(v.World, v.caller, v.value)
	return nil, nil
}

func (v visit) depositTo(a []api.Word) ([]byte, error) {
	Credit(v.World, word.Addr(a[0]), v.value)
	return nil, nil
}

func (v visit) balanceOf(a []api.Word) ([]byte, error) {
	return word.Bytes(Deposit(v.World, word.Addr(a[0]))), nil
}

func (v visit) getNonce(a []api.Word) ([]byte, error) {
	if !isKey(a[1]) {
		return nil, errKey
	}
	return word.Bytes(Nonce(v.World, word.Addr(a[0]), a[1])), nil
}

func (v visit) incrementNonce(a []api.Word) ([]byte, error) {
	switch {
	case !isKey(a[0]):
		return nil, errKey
	case !Use(v.World, v.caller, Nonce(v.World, v.caller, a[0])):
		return nil, errNonce
	}
	return nil, nil
}

// isKey says whether nonces of a key are kept.
func isKey(key api.Word) bool {
	_, small := word.Small(key)
	return small
}

func (v visit) addStake(a []api.Word) ([]byte, error) {
	before := StakeOf(v.World, v.caller)
	delay, small := word.Small(a[0])
	if !small || delay == 0 || delay >= 1<<32 || delay < before.Delay {
		return nil, errDelay
	}
	sum, over := word.Add(before.Amount, v.value)
	if over || sum == (api.Word{}) {
		return nil, errStake
	}
	setStake(v.World, v.caller, api.Stake{Amount: sum, Delay: delay})
	return nil, nil
}

func (v visit) unlockStake([]api.Word) ([]byte, error) {
	s := StakeOf(v.World, v.caller)
	if s.Delay == 0 || s.Unlock != 0 {
		return nil, errUnlock
	}
	unlock, over := bits.Add64(v.now, s.Delay, 0)
	if over > 0 {
		return nil, errLate
	}
	s.Unlock = unlock
	setStake(v.World, v.caller, s)
	return nil, nil
}

func (v visit) withdrawStake(a []api.Word) ([]byte, error) {
	s := StakeOf(v.World, v.caller)
	switch {
	case s.Amount == api.Word{}:
		return nil, errStake
	case s.Unlock == 0 || s.Unlock > v.now:
		return nil, errLocked
	}
	setStake(v.World, v.caller, api.Stake{})
	return nil, v.payOut(a[0], s.Amount)
}

func (v visit) withdrawTo(a []api.Word) ([]byte, error) {
	if !Debit(v.World, v.caller, a[1]) {
		return nil, errDeposit
	}
	return nil, v.payOut(a[0], a[1])
}

// payOut pays what is no longer kept for anyone.
func (v visit) payOut(to, amount api.Word) error {
	if !v.Pay(Self(), word.Addr(to), amount) {
		return errBalance
	}
	return nil
}
