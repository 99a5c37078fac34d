package rules

import (
	"bytes"
	"slices"

	"quaestor/abi"
	"quaestor/api"
	"quaestor/desk"
	"quaestor/ops"
	"quaestor/word"
)

// step is an event of a part, with its index. Its methods are the rules: each says whether the event violates it.
type step struct {
	api.Event
	*part
	at int
}

// rules are all, by their numbers less 1.
func rules() []func(step) bool {
	return []func(step) bool{
		step.asksBlock,
		step.asksGas,
		step.starves,
		step.creates,
		step.visitsNobody,
		step.pays,
		step.misusesEntry,
		step.strays,
	}
}

// starving is the number of the rule that what was not done can violate, too.
const starving = 3

// violates are the numbers of the rules that the event violates.
func (s step) violates() []uint8 {
	var found []uint8
	for i, violated := range rules() {
		rule := uint8(i + 1)
		if (s.Fault == api.OK || rule == starving) && violated(s) {
			found = append(found, rule)
		}
	}
	return found
}

// other is the address that the event speaks of.
func (s step) other() api.Address { return word.Addr(s.Arg) }

// asksBlock: what will be another by the time of the bundle; the balances of one who has a stake at risk may be asked for.
func (s step) asksBlock() bool {
	switch s.Op {
	case ops.Origin, ops.GasPrice, ops.BlockHash, ops.CoinBase, ops.Timestamp, ops.Number, ops.PrevRandao, ops.GasLimit, ops.BaseFee, ops.SelfDestruct:
		return true
	case ops.Balance, ops.SelfBalance:
		return !s.isStaked()
	}
	return false
}

// asksGas: how much gas there is, but to pass it on.
func (s step) asksGas() bool { return among(s.loose, s.at) }

// starves: it ran out of gas, and might not with more.
func (s step) starves() bool { return among(s.starved, s.at) }

// creates: accounts other than the sender, or at another time than the factory's.
func (s step) creates() bool {
	switch s.Op {
	case ops.Create:
		return true
	case ops.Create2:
		return s.at != s.making || s.other() != s.user.Sender
	}
	return false
}

// visitsNobody: an account without code, which may have some by then.
func (s step) visitsNobody() bool {
	switch s.Op {
	case ops.ExtCodeSize, ops.ExtCodeCopy, ops.ExtCodeHash, ops.Call, ops.CallCode, ops.DelegateCall, ops.StaticCall:
		a := s.other()
		return a != desk.Self() && !isBuiltIn(a) && len(s.Code(a)) == 0
	}
	return false
}

// isBuiltIn says whether an address is one of those that need no code: 1 to 9.
func isBuiltIn(a api.Address) bool {
	last := a[len(a)-1]
	return a == api.Address{len(a) - 1: last} && last >= 1 && last <= 9
}

// pays: anyone but the entry point.
func (s step) pays() bool {
	switch s.Op {
	case ops.Call, ops.CallCode:
		return s.Value != api.Word{} && s.other() != desk.Self()
	}
	return false
}

// misusesEntry: calls of the entry point that do more than deposit.
func (s step) misusesEntry() bool {
	if s.other() != desk.Self() {
		return false
	}
	switch s.Op {
	case ops.CallCode, ops.DelegateCall:
		return true
	case ops.Call, ops.StaticCall:
		return len(s.Data) > 0 && !bytes.Equal(s.Data, abi.Selector("depositTo(address)"))
	}
	return false
}

// strays: slots that others may change, or need themselves.
func (s step) strays() bool {
	switch s.Op {
	case ops.SLoad, ops.SStore:
		return !s.isSenders() && !s.isForStaked()
	}
	return false
}

// isSenders says whether the slot is the sender's, or is associated with it. The latter does not count for one that a factory makes, unless that has a stake: anyone could make many.
func (s step) isSenders() bool {
	if s.Self == s.user.Sender {
		return true
	}
	alone := !s.user.HasFactory || s.staked[api.RoleFactory]
	return alone && s.belongs(s.user.Sender, s.Arg)
}

// isForStaked says whether the slot is one that the role may use because it has a stake: any to read, and to write what is its own or is associated with it.
func (s step) isForStaked() bool {
	if !s.isStaked() {
		return false
	}
	a, is := Entity(s.user, s.role)
	return s.Op == ops.SLoad || is && (s.Self == a || s.belongs(a, s.Arg))
}

// among says whether an index is one of some that rise.
func among(l []int, i int) bool {
	_, is := slices.BinarySearch(l, i)
	return is
}
