package rules_test

import (
	"slices"
	"testing"

	"quaestor/abi"
	"quaestor/api"
	"quaestor/desk"
	"quaestor/rules"
	"quaestor/store"
	"quaestor/word"
)

const most uint64 = 1<<64 - 1

var all = api.Word{most, most, most, most}

// at is an address that is a small number.
func at(n uint64) api.Address { return word.Addr(word.From(n)) }

// Who takes part in most tests; shop has code, and nobody has none.
var (
	me, factory, payer = api.Address{1, 19: 0xa1}, at(0xfa), at(0xba)
	shop, nobody       = api.Address{0: 0x5e, 9: 1}, at(0x77)
	self               = desk.Self()
)

// deposits is what calls of the entry point may begin with.
var deposits = abi.Selector("depositTo(address)")

// full is an operation that has all.
func full() api.UserOp {
	return api.UserOp{Sender: me, HasFactory: true, Factory: factory, HasPaymaster: true, Paymaster: payer}
}

// plain is one that has a sender alone.
func plain() api.UserOp { return api.UserOp{Sender: me} }

// town is a World in which those who take part have code, and the shop.
func town() *store.World {
	var l []api.Entry
	for _, a := range []api.Address{me, factory, payer, shop} {
		l = append(l, api.Entry{Addr: a, Account: api.Account{Code: []byte{0}}})
	}
	return store.New(append(l, api.Entry{Addr: nobody, Account: api.Account{Nonce: 1, Balance: api.Word{5}, Slots: []api.Slot{{Value: api.Word{1}}}}}))
}

// by are events of one role.
func by(role uint8, l ...api.Event) [4][]api.Event {
	var all [4][]api.Event
	all[role] = l
	return all
}

// each calls a function for each role.
func each(do func(role uint8)) {
	for _, role := range []uint8{1, 2, 3} {
		do(role)
	}
}

// bets are all ways in which roles may be staked; what stands at index 0 is no role.
func bets() [][4]bool {
	var l [][4]bool
	for i := range 16 {
		l = append(l, [4]bool{i&8 != 0, i&1 != 0, i&2 != 0, i&4 != 0})
	}
	return l
}

// faults are what an event may end a frame with.
func faults() []api.Errno {
	return []api.Errno{api.ErrArg, api.ErrVMGas, api.ErrVMStack, api.ErrVMJump, api.ErrVMOp, api.ErrVMStatic, api.ErrVMRange, api.ErrVMFunds, api.ErrVMCode, api.ErrVMCollide, 2, 1 << 15, 1<<16 - 1}
}

// breaks says whether a rule is among those that a full operation violates at the last one of its events, by one role; it must violate no rule ahead of that.
func breaks(t *testing.T, rule uint8, x api.UserOp, role uint8, staked [4]bool, l ...api.Event) bool {
	t.Helper()
	is := false
	for _, b := range rules.Check(town(), x, by(role, l...), staked) {
		if b.Role != role || b.At != len(l)-1 {
			if b.Rule == rule {
				t.Errorf("%v: %v", l, b)
			}
			continue
		}
		is = is || b.Rule == rule
	}
	return is
}

// broken compares what was found.
func broken(t *testing.T, name string, got []api.Broken, want ...api.Broken) {
	t.Helper()
	if !slices.Equal(got, want) {
		t.Errorf("%s: %v, want %v", name, got, want)
	}
}

// hashed is an event of a hash of an address, as a word, and another word behind it.
func hashed(a api.Address, hash api.Word) api.Event {
	return api.Event{Op: 0x20, Value: hash, Data: append(word.Bytes(word.Wide(a)), make([]byte, 32)...)}
}

// plus is a sum modulo 2^256.
func plus(a, b api.Word) api.Word {
	sum, _ := word.Add(a, b)
	return sum
}

// crowd are those whose accounts tests ask for.
func crowd() []api.Address {
	return []api.Address{me, factory, payer, shop, nobody, self, {}, at(1), at(9)}
}
