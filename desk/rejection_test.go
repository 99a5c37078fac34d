package desk

import (
	"errors"
	"testing"

	"quaestor/abi"
	"quaestor/api"
	"quaestor/store"
	"quaestor/word"
)

// request is the input of a call, with words as arguments.
func request(name string, args ...api.Word) []byte {
	b := abi.Selector(name)
	for _, a := range args {
		b = append(b, word.Bytes(a)...)
	}
	return b
}

// TestReasons: why each call is rejected, as errors.Is tells it.
func TestReasons(t *testing.T) {
	me, great := api.Address{1}, api.Word{0, 1}
	staked := func(amount, balance uint64, delay, unlock uint64) *store.World {
		w := store.New([]api.Entry{{Addr: Self(), Account: api.Account{Balance: api.Word{balance}}}})
		setStake(w, me, api.Stake{Amount: api.Word{amount}, Delay: delay, Unlock: unlock})
		Credit(w, me, api.Word{5})
		w.SetSlot(Self(), slot(me, sequence, 3), api.Word{1<<64 - 1})
		return w
	}
	for _, x := range []struct {
		w      *store.World
		value  api.Word
		in     []byte
		static bool
		reason error
	}{
		{staked(0, 0, 0, 0), api.Word{}, []byte{1, 2, 3, 4}, false, errName},
		{staked(0, 0, 0, 0), api.Word{}, []byte{1}, false, errName},
		{staked(0, 0, 0, 0), api.Word{}, nil, true, errStatic},
		{staked(0, 0, 0, 0), api.Word{}, request("unlockStake()"), true, errStatic},
		{staked(0, 0, 0, 0), api.Word{1}, request("balanceOf(address)", api.Word{}), false, errValue},
		{staked(0, 0, 0, 0), api.Word{}, request("depositTo(address)"), false, api.ErrAbiForm},
		{staked(0, 0, 0, 0), api.Word{}, request("getNonce(address,uint192)", api.Word{}), false, api.ErrAbiForm},
		{staked(0, 0, 0, 0), api.Word{}, request("depositTo(address)", api.Word{0, 0, 1 << 32}), false, errAddress},
		{staked(0, 0, 0, 0), api.Word{}, request("getNonce(address,uint192)", api.Word{}, great), false, errKey},
		{staked(0, 0, 0, 0), api.Word{}, request("incrementNonce(uint192)", great), false, errKey},
		{staked(0, 0, 0, 0), api.Word{}, request("incrementNonce(uint192)", api.Word{3}), false, errNonce},
		{staked(1, 0, 5, 0), api.Word{}, request("addStake(uint32)", api.Word{4}), false, errDelay},
		{staked(0, 0, 5, 0), api.Word{}, request("addStake(uint32)", api.Word{5}), false, errStake},
		{staked(0, 0, 0, 0), api.Word{}, request("unlockStake()"), false, errUnlock},
		{staked(0, 0, 1<<64-1, 0), api.Word{}, request("unlockStake()"), false, errLate},
		{staked(0, 0, 5, 5), api.Word{}, request("withdrawStake(address)", api.Word{}), false, errStake},
		{staked(1, 0, 5, 9), api.Word{}, request("withdrawStake(address)", api.Word{}), false, errLocked},
		{staked(1, 0, 5, 5), api.Word{}, request("withdrawStake(address)", api.Word{}), false, errBalance},
		{staked(0, 9, 0, 0), api.Word{}, request("withdrawTo(address,uint256)", api.Word{}, api.Word{6}), false, errDeposit},
		{staked(0, 4, 0, 0), api.Word{}, request("withdrawTo(address,uint256)", api.Word{}, api.Word{5}), false, errBalance},
	} {
		out, err := visit{x.w, 8, me, x.value}.perform(x.in, x.static)
		var r rejection
		switch {
		case out != nil || !errors.Is(err, errRejected) || !errors.Is(err, x.reason) || errors.Unwrap(err) != x.reason:
			t.Errorf("%x: %x, %v, want %v", x.in, out, err, x.reason)
		case !errors.As(err, &r) || errors.Is(err, errors.New(x.reason.Error())):
			t.Errorf("%x: %v is no rejection, or another one, too", x.in, err)
		}
	}
	out, err := visit{staked(0, 0, 0, 0), 8, me, api.Word{}}.perform(nil, false)
	if out != nil || err != nil || errors.Is(err, errRejected) {
		t.Errorf("a deposit of nothing: %x, %v", out, err)
	}
}

func TestRejectionText(t *testing.T) {
	if s := (rejection{"unlockStake()", api.ErrAbiForm}).Error(); s != "unlockStake(): errno 50" {
		t.Error(s)
	}
}
