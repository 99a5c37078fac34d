package vm_test

import (
	"bytes"
	"crypto/sha256"
	"testing"

	"quaestor/abi"
	"quaestor/api"
	"quaestor/desk"
	"quaestor/sample"
	"quaestor/store"
	"quaestor/vm"
	"quaestor/word"
)

// TestNatives: what the addresses 2 and 4 answer, to the last gas, by all kinds of calls.
func TestNatives(t *testing.T) {
	for n := range uint64(100) {
		data := sample.Noise(int(n)+5, n)[:n]
		words := (n + 31) / 32
		hash := sha256.Sum256(data)
		for _, x := range []struct {
			to   api.Address
			cost uint64
			out  []byte
		}{{at(2), 60 + 12*words, hash[:]}, {at(4), 15 + 3*words, data}} {
			for gas := x.cost - 2; gas < x.cost+3; gas++ {
				m := api.Message{From: caller, To: x.to, Data: data, Gas: gas}
				want := api.Result{Status: api.DoneFault, Fault: api.ErrVMGas}
				if gas >= x.cost {
					want = api.Result{Status: api.DoneOK, Gas: gas - x.cost, Out: x.out}
				}
				if r, _ := vm.Call(worldOf(""), block(), caller, m); !sameResult(r, want) {
					t.Errorf("%x of %d bytes with %d gas: %v, want %v", x.to, n, gas, r, want)
				}
			}
			for kind := range kinds() {
				pushes := "0 0 CALLDATASIZE 0 "
				if kinds()[kind] {
					pushes += "0 "
				}
				w := worldOf("CALLDATASIZE 0 0 CALLDATACOPY " + pushes + digits(word.Wide(x.to)) + " " + number(x.cost) + " " + kind + " RETURNDATASIZE 0 0 RETURNDATACOPY RETURNDATASIZE 0 RETURN")
				m := plain(enough)
				m.Data = data
				if r, _ := vm.Call(w, block(), caller, m); !bytes.Equal(r.Out, x.out) {
					t.Errorf("%s of %x with %d bytes: %v", kind, x.to, n, r)
				}
			}
		}
	}
}

// TestNativeFaults: what costs too much is told of the callee, as whom it would have run.
func TestNativeFaults(t *testing.T) {
	for _, to := range []api.Address{at(2), at(4), desk.Self()} {
		for kind := range kinds() {
			text := calling(kind, digits(word.Wide(to)), "0", "14", 0, 0, 0, 0) + "ISZERO"
			_, l, _ := run(text, enough)
			who := to
			if kind == "CALLCODE" || kind == "DELEGATECALL" {
				who = me
			}
			want := api.Event{Depth: 1, Self: who, Fault: api.ErrVMGas}
			is := false
			for _, e := range l {
				is = is || sample.SameEvent(e, want)
				if e.Depth > 0 && !sample.SameEvent(e, want) {
					t.Errorf("%s of %x: %v", kind, to, e)
				}
			}
			if may := to != desk.Self() || who == to; is != may {
				t.Errorf("%s of %x: %v", kind, to, l)
			}
		}
	}
}

// TestNativeOverCode: at these addresses, and at no others, code is not run.
func TestNativeOverCode(t *testing.T) {
	for n := range uint64(12) {
		for _, kind := range []string{"CALL", "DELEGATECALL"} {
			_, l, _ := run(calling(kind, number(n), "0", "GAS", 0, 0, 0, 0), enough, entry(at(n), 0, "JUMPDEST"))
			runs := false
			for _, e := range l {
				runs = runs || e.Op == 0x5b
			}
			if runs == (n == 2 || n == 4) {
				t.Errorf("%s of %d: %v", kind, n, l)
			}
		}
	}
	for _, a := range []api.Address{{0: 2}, {18: 2}, {18: 1, 19: 2}, {0: 1, 19: 4}} {
		r, _ := vm.Call(store.New([]api.Entry{entry(a, 0, "JUMPDEST")}), block(), caller, api.Message{To: a, Gas: 5})
		if r.Status != api.DoneOK || r.Gas != 4 {
			t.Errorf("%x: %v", a, r)
		}
	}
	// the entry point's code, if it had some, would be run as another's alone
	for kind := range kinds() {
		_, l, _ := run(calling(kind, digits(word.Wide(desk.Self())), "0", "GAS", 0, 0, 0, 0), enough, entry(desk.Self(), 0, "JUMPDEST"))
		runs := false
		for _, e := range l {
			runs = runs || e.Op == 0x5b && e.Self == me && e.Depth == 1
		}
		if runs != (kind == "CALLCODE" || kind == "DELEGATECALL") {
			t.Errorf("%s of the entry point: %v", kind, l)
		}
	}
}

// TestDeskCalls: calls of the entry point: who calls, with what, when, and whether statically.
func TestDeskCalls(t *testing.T) {
	self := digits(word.Wide(desk.Self()))
	// a deposit, by the empty input
	r, l, w := run(calling("CALL", self, "30", "GAS", 0, 0, 0, 0)+telling, enough)
	if word.Read(r.Out[:32]) != (api.Word{1}) || desk.Deposit(w, me) != (api.Word{30}) || w.Balance(desk.Self()) != (api.Word{30}) || w.Balance(me) != (api.Word{70}) {
		t.Errorf("%v, %v", r, w.Entries())
	}
	for _, e := range l {
		if e.Depth > 0 {
			t.Errorf("%v", e)
		}
	}
	// from without, with all of the edges of its gas
	for gas := uint64(4998); gas < 5003; gas++ {
		w := worldOf("")
		w.SetBalance(caller, api.Word{8})
		r, l := vm.Call(w, block(), caller, api.Message{From: caller, To: desk.Self(), Value: api.Word{8}, Gas: gas})
		if gas < 5000 && (!sameResult(r, api.Result{Status: api.DoneFault, Fault: api.ErrVMGas}) || len(l) != 1 || w.Balance(caller) != (api.Word{8})) || gas >= 5000 && (!sameResult(r, api.Result{Status: api.DoneOK, Gas: gas - 5000}) || desk.Deposit(w, caller) != (api.Word{8})) {
			t.Errorf("%d gas: %v, %v", gas, r, w.Entries())
		}
	}
}

// asking is a message of the caller to the entry point.
func asking(name string, args ...api.Word) api.Message {
	data := abi.Selector(name)
	for _, a := range args {
		data = append(data, word.Bytes(a)...)
	}
	return api.Message{From: caller, To: desk.Self(), Data: data, Gas: 6000}
}

// TestDeskAnswers: answers, and rejections, which are taken back, and cost no more than that.
func TestDeskAnswers(t *testing.T) {
	w := worldOf("")
	desk.Credit(w, caller, api.Word{9})
	r, _ := vm.Call(w, block(), caller, asking("balanceOf(address)", word.Wide(caller)))
	if !sameResult(r, api.Result{Status: api.DoneOK, Gas: 1000, Out: word.Bytes(word.From(9))}) {
		t.Errorf("%v", r)
	}
	before := w.Entries()
	r, l := vm.Call(w, block(), caller, asking("withdrawTo(address,uint256)", word.Wide(me), api.Word{5})) // it has no balance to pay by
	if !sameResult(r, api.Result{Status: api.DoneRevert, Gas: 1000}) || len(l) > 0 || !sample.SameEntries(before, w.Entries()) {
		t.Errorf("%v, %v, %v", r, l, w.Entries())
	}
	m := asking("nothing()")
	m.Value = api.Word{7}
	w.SetBalance(caller, api.Word{7})
	if r, _ := vm.Call(w, block(), caller, m); !sameResult(r, api.Result{Status: api.DoneRevert, Gas: 1000}) || w.Balance(caller) != (api.Word{7}) || w.Balance(desk.Self()) != (api.Word{}) {
		t.Errorf("%v, %v", r, w.Entries())
	}
	// the time is the block's
	m = asking("addStake(uint32)", api.Word{20})
	m.Value = api.Word{7}
	if r, _ := vm.Call(w, block(), caller, m); r.Status != api.DoneOK {
		t.Errorf("%v", r)
	}
	if r, _ := vm.Call(w, block(), caller, asking("unlockStake()")); r.Status != api.DoneOK || desk.StakeOf(w, caller) != (api.Stake{Amount: api.Word{7}, Delay: 20, Unlock: 27}) {
		t.Errorf("%v, %v", r, desk.StakeOf(w, caller))
	}
}

// TestDeskStatic: a static call of the entry point asks alone; so a call in a static frame.
func TestDeskStatic(t *testing.T) {
	self := digits(word.Wide(desk.Self()))
	ask := digits(word.Shl(word.From(224), word.Read(abi.Selector("balanceOf(address)")))) + " 0 MSTORE "
	act := digits(word.Shl(word.From(224), word.Read(abi.Selector("incrementNonce(uint192)")))) + " 0 MSTORE "
	for _, x := range []struct {
		text string
		is   uint64
	}{
		{ask + calling("CALL", self, "0", "GAS", 0, 36, 0, 0), 1}, {ask + calling("STATICCALL", self, "0", "GAS", 0, 36, 0, 0), 1},
		{act + calling("CALL", self, "0", "GAS", 0, 36, 0, 0), 1}, {act + calling("STATICCALL", self, "0", "GAS", 0, 36, 0, 0), 0},
	} {
		if got := answer(t, x.text); got != word.From(x.is) {
			t.Errorf("%s: %v", x.text, got)
		}
		inner := entry(at(0x77), 0, x.text+"0 MSTORE 32 0 RETURN")
		want := word.From(1)
		if x.text[:len(act)] == act {
			want = api.Word{}
		}
		if got := answer(t, calling("STATICCALL", "0x77", "0", "GAS", 0, 0, 0, 32)+"POP 0 MLOAD", inner); got != want {
			t.Errorf("%s in a static frame: %v, want %v", x.text, got, want)
		}
	}
}
