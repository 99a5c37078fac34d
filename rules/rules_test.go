package rules_test

import (
	"testing"

	"quaestor/abi"
	"quaestor/api"
	"quaestor/desk"
	"quaestor/rules"
	"quaestor/sample"
	"quaestor/store"
	"quaestor/word"
)

// The functions have the signatures that the chapter lists.
var (
	_ func(*store.World, api.UserOp, [4][]api.Event, [4]bool) []api.Broken = rules.Check
	_ func(api.UserOp, uint8) (api.Address, bool)                          = rules.Entity
	_ func(*store.World, api.UserOp) [4]bool                               = rules.Stakes
)

// TestEntity goes through all numbers of roles, and all who may be missing.
func TestEntity(t *testing.T) {
	for i := range 256 {
		for _, has := range [][2]bool{{false, false}, {true, false}, {false, true}, {true, true}} {
			x := full()
			x.HasFactory, x.HasPaymaster = has[0], has[1]
			var want api.Address
			is := true
			switch {
			case i == 1:
				want = me
			case i == 2 && has[0]:
				want = factory
			case i == 3 && has[1]:
				want = payer
			default:
				is = false
			}
			if a, ok := rules.Entity(x, uint8(i)); a != want || ok != is {
				t.Errorf("role %d, %v: %x, %v", i, has, a, ok)
			}
		}
	}
}

// TestEntityNought: who has the address 0 takes part, too.
func TestEntityNought(t *testing.T) {
	x := api.UserOp{HasFactory: true, HasPaymaster: true}
	each(func(role uint8) {
		if a, is := rules.Entity(x, role); a != (api.Address{}) || !is {
			t.Errorf("role %d: %x, %v", role, a, is)
		}
	})
}

// stake sets a stake in the entry point's storage.
func stake(w *store.World, a api.Address, s api.Stake) {
	base := word.Shl(word.From(96), word.Wide(a))
	w.SetSlot(self, plus(base, api.Word{0, 1}), s.Amount)
	w.SetSlot(self, plus(base, api.Word{0, 2}), api.Word{s.Unlock, s.Delay})
}

// TestStakes: what suffices, and what does not just so.
func TestStakes(t *testing.T) {
	const ether, day = 1000000000000000000, 86400
	for _, y := range []struct {
		stake api.Stake
		want  bool
	}{
		{api.Stake{}, false},
		{api.Stake{Amount: api.Word{ether}, Delay: day}, true},
		{api.Stake{Amount: api.Word{ether - 1}, Delay: day}, false},
		{api.Stake{Amount: api.Word{ether + 1}, Delay: day}, true},
		{api.Stake{Amount: api.Word{1}, Delay: day}, false},
		{api.Stake{Amount: api.Word{}, Delay: day}, false},
		{api.Stake{Amount: api.Word{0, 1}, Delay: day}, true},
		{api.Stake{Amount: api.Word{0, 0, 1}, Delay: day}, true},
		{api.Stake{Amount: api.Word{0, 0, 0, 1 << 63}, Delay: day}, true},
		{api.Stake{Amount: all, Delay: most}, true},
		{api.Stake{Amount: api.Word{ether}, Delay: day - 1}, false},
		{api.Stake{Amount: api.Word{ether}, Delay: day + 1}, true},
		{api.Stake{Amount: api.Word{ether}, Delay: 1}, false},
		{api.Stake{Amount: api.Word{ether}}, false},
		{api.Stake{Amount: api.Word{ether}, Delay: 1 << 32}, true},
		{api.Stake{Amount: api.Word{ether}, Delay: most}, true},
		{api.Stake{Amount: api.Word{ether}, Delay: day, Unlock: 1}, false},
		{api.Stake{Amount: api.Word{ether}, Delay: day, Unlock: 1 << 32}, false},
		{api.Stake{Amount: api.Word{ether}, Delay: day, Unlock: most}, false},
		{api.Stake{Amount: all, Delay: most, Unlock: 1}, false},
	} {
		for i, a := range []api.Address{me, factory, payer} {
			w := town()
			stake(w, a, y.stake)
			if desk.StakeOf(w, a) != y.stake {
				t.Fatalf("%v was not set", y.stake)
			}
			var want [4]bool
			want[i+1] = y.want
			before := w.Copy()
			if got := rules.Stakes(w, full()); got != want {
				t.Errorf("%v of role %d: %v", y.stake, i+1, got)
			}
			if !sample.SameWorlds(w, before, crowd()) {
				t.Error("the World was changed")
			}
		}
	}
}

// TestStakesOf: the stakes of those who take part, and of no others.
func TestStakesOf(t *testing.T) {
	w := town()
	enough := api.Stake{Amount: api.Word{0, 1}, Delay: 1 << 20}
	for _, a := range []api.Address{me, factory, payer, {}} {
		stake(w, a, enough)
	}
	for _, has := range [][2]bool{{false, false}, {true, false}, {false, true}, {true, true}} {
		x := full()
		x.HasFactory, x.HasPaymaster = has[0], has[1]
		if got := rules.Stakes(w, x); got != [4]bool{false, true, has[0], has[1]} {
			t.Errorf("%v: %v", has, got)
		}
		x.Sender, x.Factory, x.Paymaster = shop, nobody, me
		if got := rules.Stakes(w, x); got != [4]bool{false, false, false, has[1]} {
			t.Errorf("%v, others: %v", has, got)
		}
		x.Sender, x.Factory, x.Paymaster = api.Address{}, payer, payer
		if got := rules.Stakes(w, x); got != [4]bool{false, true, has[0], has[1]} {
			t.Errorf("%v, the same ones: %v", has, got)
		}
	}
	if got := rules.Stakes(store.New(nil), full()); got != [4]bool{} {
		t.Errorf("an empty World: %v", got)
	}
}

// TestStakesCall: a stake that is put down by calls of the entry point.
func TestStakesCall(t *testing.T) {
	w := town()
	w.SetBalance(self, api.Word{2000000000000000000})
	in := append(abi.Selector("addStake(uint32)"), word.Bytes(word.From(86400))...)
	for i, want := range []bool{false, true} {
		if _, is := desk.Call(w, 5, payer, api.Word{500000000000000000}, in, false); !is {
			t.Fatal("not put down")
		}
		if got := rules.Stakes(w, full()); got != [4]bool{3: want} {
			t.Errorf("call %d: %v", i, got)
		}
	}
	if _, is := desk.Call(w, 5, payer, api.Word{}, abi.Selector("unlockStake()"), false); !is {
		t.Fatal("not unlocked")
	}
	if got := rules.Stakes(w, full()); got != [4]bool{} {
		t.Errorf("being unlocked: %v", got)
	}
}
