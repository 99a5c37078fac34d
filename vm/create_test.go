package vm_test

import (
	"bytes"
	"testing"

	"quaestor/api"
	"quaestor/keccak"
	"quaestor/sample"
	"quaestor/store"
	"quaestor/vm"
	"quaestor/word"
)

// making is code that creates, with a value, from its data; with a salt, if there is one.
func making(value uint64, salt string) string {
	op := "CREATE "
	if salt != "" {
		op = "CREATE2 "
	}
	return "CALLDATASIZE 0 0 CALLDATACOPY " + salt + " CALLDATASIZE 0 " + number(value) + " " + op
}

// makes runs code that creates from init code, which it has as its data.
func makes(init string, value uint64, salt, then string, gas uint64, more ...api.Entry) (api.Result, []api.Event, *store.World) {
	w := worldOf(making(value, salt)+then, more...)
	m := plain(gas)
	m.Data = assemble(init)
	r, l := vm.Call(w, block(), at(0x0b), m)
	return r, l, w
}

// telling answers what is on the stack, how much the creation answered, and that.
const telling = "0 MSTORE RETURNDATASIZE 32 MSTORE RETURNDATASIZE 0 64 RETURNDATACOPY RETURNDATASIZE 64 ADD 0 RETURN"

// TestCreations: what is made, by whom, with which code.
func TestCreations(t *testing.T) {
	for init, code := range map[string][]byte{
		"0 0 RETURN": nil, "": nil, "STOP": nil, "1 0 RETURN": {0}, "0x0102 0 MSTORE 2 30 RETURN": {1, 2}, "0xfe 0 MSTORE8 1 0 RETURN": {0xfe}, "0x55 SELFDESTRUCT": nil, "0x00ef 0 MSTORE 2 29 RETURN": {0, 0}, "3 0 0 CODECOPY 3 0 RETURN": {0x60, 3, 0x60},
	} {
		for _, salt := range []string{"", "0", "7", digits(all)} {
			made := vm.Made(me, 5)
			if salt != "" {
				n := api.Word{}
				switch salt {
				case "7":
					n = api.Word{7}
				case digits(all):
					n = all
				}
				made = vm.Made2(me, n, assemble(init))
			}
			w := worldOf(making(3, salt) + telling)
			w.SetNonce(me, 5)
			m := plain(enough)
			m.Data = assemble(init)
			r, l := vm.Call(w, block(), caller, m)
			if word.Read(r.Out[:32]) != word.Wide(made) || len(r.Out) != 64 || word.Read(r.Out[32:]) != (api.Word{}) || r.Made != (api.Address{}) {
				t.Errorf("%s, salt %s: %v", init, salt, r)
			}
			balance := uint64(3)
			if init == "0x55 SELFDESTRUCT" {
				balance = 0
			}
			if w.Nonce(me) != 6 || w.Nonce(made) != 1 || w.Balance(me) != (api.Word{97}) || w.Balance(made) != word.From(balance) || !bytes.Equal(w.Code(made), code) || !w.Touch(made) {
				t.Errorf("%s, salt %s: %v", init, salt, w.Entries())
			}
			for _, e := range l {
				if e.Depth == 1 && e.Self != made || e.Depth > 1 || e.Fault != api.OK {
					t.Errorf("%s, salt %s: %v", init, salt, e)
				}
			}
		}
	}
}

// TestCreationContext: as whom, for whom, and with what the init code runs.
func TestCreationContext(t *testing.T) {
	r, _, w := makes(context+" #5b", 3, "", "", enough)
	made := vm.Made(me, 0)
	out := w.Code(made)
	init := assemble(context + " #5b")
	want := []api.Word{word.Wide(made), word.Wide(me), {3}, {0x0b}, {}, {}, word.From(uint64(len(init))), {14}}
	for i, v := range want {
		if len(out) != 256 || word.Read(out[32*i:32*i+32]) != v {
			t.Errorf("the word %d is not %v: %v, %x", i, v, r, out)
		}
	}
	// it has a nonce of 1, and the value, while it runs
	_, _, w = makes("SELFBALANCE 0 MSTORE 0 0 0 CREATE 32 MSTORE ADDRESS EXTCODESIZE 64 MSTORE ADDRESS EXTCODEHASH 96 MSTORE 128 0 RETURN", 3, "", "", enough)
	out = w.Code(made)
	want = []api.Word{{3}, word.Wide(vm.Made(made, 1)), {}, keccak.Sum(nil)}
	for i, v := range want {
		if len(out) != 128 || word.Read(out[32*i:32*i+32]) != v {
			t.Errorf("the word %d is not %v: %x", i, v, out)
		}
	}
}

// TestCreationFails: what is pushed, answered, and left, where a creation ends otherwise.
func TestCreationFails(t *testing.T) {
	for _, x := range []struct {
		init  string
		out   []byte
		fault api.Errno
	}{
		{"0 0 REVERT", nil, api.OK}, {"0x0102 0 MSTORE 2 30 REVERT", []byte{1, 2}, api.OK}, {"#fe", nil, api.ErrVMOp}, {"0xef 0 MSTORE8 1 0 RETURN", nil, api.ErrVMCode}, {"0xef 0 MSTORE8 5 0 RETURN", nil, api.ErrVMCode}, {"24577 0 RETURN", nil, api.ErrVMCode}, {"30000 0 RETURN", nil, api.ErrVMCode}, {"POP", nil, api.ErrVMStack},
	} {
		for _, salt := range []string{"", "7"} {
			r, l, w := makes("1 1 SSTORE "+x.init, 3, salt, telling, enough)
			if word.Read(r.Out[:32]) != (api.Word{}) || !bytes.Equal(r.Out[64:], x.out) {
				t.Errorf("%s, salt %s: %v", x.init, salt, r)
			}
			made := vm.Made(me, 0)
			if salt != "" {
				made = vm.Made2(me, api.Word{7}, assemble("1 1 SSTORE "+x.init))
			}
			if w.Nonce(me) != 1 || w.Balance(me) != (api.Word{100}) || len(w.Entries()) != 1 || !w.Touch(made) || w.TouchSlot(made, api.Word{1}) {
				t.Errorf("%s, salt %s: %v", x.init, salt, w.Entries())
			}
			var faults []api.Event
			for _, e := range l {
				if e.Fault != api.OK {
					faults = append(faults, e)
				}
			}
			if x.fault == api.OK && len(faults) > 0 || x.fault != api.OK && (len(faults) != 1 || faults[0].Fault != x.fault || faults[0].Depth != 1 || faults[0].Self != made) {
				t.Errorf("%s, salt %s: %v", x.init, salt, faults)
			}
			if x.fault == api.ErrVMCode && faults[0].Op != 0 {
				t.Errorf("%s, salt %s: %v", x.init, salt, faults)
			}
		}
	}
}

// TestCodeLength: of 24576 bytes, and of one more.
func TestCodeLength(t *testing.T) {
	for _, n := range []uint64{24575, 24576, 24577, 24578} {
		m := api.Message{From: caller, Create: true, Data: assemble(number(n) + " 0 RETURN"), Gas: enough}
		w := worldOf("")
		r, _ := vm.Call(w, block(), caller, m)
		words := (n + 31) / 32
		want := api.Result{Status: api.DoneOK, Gas: enough - 6 - (3*words + words*words/512) - 200*n, Made: vm.Made(caller, 0)}
		if n > 24576 {
			want = api.Result{Status: api.DoneFault, Fault: api.ErrVMCode}
		} else if len(w.Code(r.Made)) != int(n) {
			t.Errorf("%d bytes: the code has %d", n, len(w.Code(r.Made)))
		}
		if !sameResult(r, want) || w.Nonce(caller) != 1 {
			t.Errorf("%d bytes: %v, want %v", n, r, want)
		}
	}
}

// TestCodeGas: 200 for each byte, to the last gas.
func TestCodeGas(t *testing.T) {
	for _, n := range []uint64{0, 1, 2, 33, 100} {
		words := (n + 31) / 32
		need := 6 + 3*words + 200*n
		for gas := need - min(need, 3); gas < need+3; gas++ {
			w := worldOf("")
			r, l := vm.Call(w, block(), caller, api.Message{From: caller, Create: true, Data: assemble(number(n) + " 0 RETURN"), Gas: gas})
			made := vm.Made(caller, 0)
			switch e := l[len(l)-1]; {
			case gas >= need:
				if !sameResult(r, api.Result{Status: api.DoneOK, Gas: gas - need, Made: made}) {
					t.Errorf("%d bytes, %d gas: %v", n, gas, r)
				}
			case !sameResult(r, api.Result{Status: api.DoneFault, Fault: api.ErrVMGas}) || e.Fault != api.ErrVMGas || e.Self != made || len(w.Code(made)) > 0 || w.Nonce(made) != 0:
				t.Errorf("%d bytes, %d gas: %v, %v", n, gas, r, e)
			case n > 0 && (e.Op != 0 || l[len(l)-2].Op != 0xf3):
				t.Errorf("%d bytes, %d gas: %v", n, gas, l)
			}
		}
	}
}

// TestMadeGas: a creation has all but a 64th; what it leaves comes back.
func TestMadeGas(t *testing.T) {
	for _, salt := range []string{"", "7"} {
		const gas = 200000
		init := "GAS 0 SSTORE"
		_, _, w := makes(init, 0, salt, "GAS 1 SSTORE", gas)
		n := uint64(len(assemble(init)))
		left := gas - (2 + 3 + 3 + 3 + 3 + 3) - (2 + 3 + 3 + 32000 + 2) // the copy, and the creation of one word
		made := vm.Made(me, 0)
		if salt != "" {
			left -= 3 + 6
			made = vm.Made2(me, api.Word{7}, assemble(init))
		}
		given := left - left/64
		if n > 32 || w.Slot(made, api.Word{}) != word.From(uint64(given-2)) || w.Slot(me, api.Word{1}) != word.From(uint64(left-2-3-22100-2)) {
			t.Errorf("salt %s: %v, want %d", salt, w.Entries(), given)
		}
	}
}

// TestCollisions: where there is code, or a nonce, nothing is made; where there are slots or a balance alone, something is.
func TestCollisions(t *testing.T) {
	for _, salt := range []string{"", "7"} {
		made := vm.Made(me, 0)
		if salt != "" {
			made = vm.Made2(me, api.Word{7}, assemble("1 0 RETURN"))
		}
		for _, x := range []struct {
			there api.Account
			may   bool
		}{
			{api.Account{}, true}, {api.Account{Balance: api.Word{8}}, true}, {api.Account{Slots: []api.Slot{{Key: api.Word{1}, Value: api.Word{2}}}}, true},
			{api.Account{Nonce: 1}, false}, {api.Account{Nonce: 7, Balance: api.Word{8}}, false}, {api.Account{Code: []byte{0}}, false}, {api.Account{Code: []byte{0}, Nonce: 1}, false},
		} {
			r, l, w := makes("1 0 RETURN", 3, salt, telling, enough, api.Entry{Addr: made, Account: x.there})
			balance, _ := word.Add(x.there.Balance, word.From(3))
			switch is := word.Read(r.Out[:32]) == word.Wide(made); {
			case is != x.may || len(r.Out) != 64 || w.Nonce(me) != 1 || !w.Touch(made):
				t.Errorf("%v: %v, %v", x.there, r, w.Entries())
			case is && (w.Balance(made) != balance || w.Nonce(made) != 1 || len(w.Code(made)) != 1 || len(x.there.Slots) > 0 && w.Slot(made, api.Word{1}) != (api.Word{2})):
				t.Errorf("%v: %v", x.there, w.Entries())
			case !is && (w.Balance(made) != x.there.Balance || w.Nonce(made) != x.there.Nonce || !bytes.Equal(w.Code(made), x.there.Code) || w.Balance(me) != (api.Word{100})):
				t.Errorf("%v: %v", x.there, w.Entries())
			}
			var inner []api.Event
			for _, e := range l {
				if e.Depth > 0 {
					inner = append(inner, e)
				}
			}
			if !x.may && (len(inner) != 1 || !sample.SameEvent(inner[0], api.Event{Depth: 1, Self: made, Fault: api.ErrVMCollide})) {
				t.Errorf("%v: %v", x.there, inner)
			}
			if !x.may && r.Gas > enough/50 {
				t.Errorf("%v: %d gas is left", x.there, r.Gas)
			}
		}
	}
	made := vm.Made(caller, 0)
	w := worldOf("", entry(made, 0, "STOP"))
	r, l := vm.Call(w, block(), caller, api.Message{From: caller, Create: true, Gas: 500})
	if !sameResult(r, api.Result{Status: api.DoneFault, Fault: api.ErrVMCollide}) || len(l) != 1 || !sample.SameEvent(l[0], api.Event{Self: made, Fault: api.ErrVMCollide}) || w.Nonce(caller) != 1 {
		t.Errorf("%v, %v", r, l)
	}
}

// TestLastNonce: who has it makes nothing, and keeps the gas; who has the one ahead makes one thing more.
func TestLastNonce(t *testing.T) {
	for _, salt := range []string{"", "7"} {
		for _, nonce := range []uint64{most, most - 1} {
			w := worldOf(making(0, salt) + "0 MSTORE GAS 32 MSTORE 64 0 RETURN")
			w.SetNonce(me, nonce)
			m := plain(100000)
			m.Data = assemble("STOP")
			r, l := vm.Call(w, block(), caller, m)
			made := vm.Made(me, nonce)
			if salt != "" {
				made = vm.Made2(me, api.Word{7}, m.Data)
			}
			want, events := api.Word{}, 0
			if nonce < most {
				want, events = word.Wide(made), 1
			}
			inner := 0
			for _, e := range l {
				if e.Depth > 0 {
					inner++
				}
				if (e.Op == 0xf0 || e.Op == 0xf5) && e.Arg != word.Wide(made) {
					t.Errorf("nonce %d: %v", nonce, e)
				}
			}
			if word.Read(r.Out[:32]) != want || inner != events || w.Nonce(me) != most || word.Read(r.Out[32:])[0] < 60000 || w.Touch(made) != (nonce < most) {
				t.Errorf("nonce %d: %v, %v", nonce, r, w.Entries())
			}
		}
	}
	w := worldOf("")
	w.SetNonce(caller, most)
	before := w.Entries()
	r, l := vm.Call(w, block(), caller, api.Message{From: caller, Create: true, Gas: 500, Data: assemble("STOP")})
	if !sameResult(r, api.Result{Status: api.DoneFault, Fault: api.ErrVMFunds, Gas: 500}) || len(l) > 0 || !sample.SameEntries(before, w.Entries()) {
		t.Errorf("%v, %v", r, l)
	}
}

// TestMessageCreates: a message that creates, which needs no To, and whose init code may have any length.
func TestMessageCreates(t *testing.T) {
	init := append(assemble("0xabcd 0 MSTORE 2 30 RETURN"), make([]byte, 60000)...)
	w := worldOf("")
	w.SetBalance(caller, api.Word{9})
	w.SetNonce(caller, 4)
	r, l := vm.Call(w, block(), caller, api.Message{From: caller, To: me, Create: true, Value: api.Word{7}, Data: init, Gas: 1000})
	made := vm.Made(caller, 4)
	want := api.Result{Status: api.DoneOK, Gas: 1000 - 12 - 6 - 400, Made: made}
	if !sameResult(r, want) || w.Nonce(caller) != 5 || w.Balance(made) != (api.Word{7}) || w.Balance(caller) != (api.Word{2}) || !bytes.Equal(w.Code(made), []byte{0xab, 0xcd}) || w.Nonce(made) != 1 {
		t.Errorf("%v, want %v, %v", r, want, w.Entries())
	}
	for _, e := range l {
		if e.Depth != 0 || e.Self != made {
			t.Errorf("%v", e)
		}
	}
	w = worldOf("")
	r, _ = vm.Call(w, block(), caller, api.Message{From: caller, Create: true, Data: assemble("0xabcd 0 MSTORE 2 30 REVERT"), Gas: 1000})
	if !sameResult(r, api.Result{Status: api.DoneRevert, Gas: 982, Out: []byte{0xab, 0xcd}}) || w.Nonce(caller) != 1 || len(w.Entries()) != 2 {
		t.Errorf("%v, %v", r, w.Entries())
	}
}
