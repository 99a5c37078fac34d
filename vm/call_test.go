package vm_test

import (
	"bytes"
	"strings"
	"testing"

	"quaestor/api"
	"quaestor/sample"
	"quaestor/store"
	"quaestor/vm"
	"quaestor/word"
)

// kinds are the calls, and whether they have a value.
func kinds() map[string]bool {
	return map[string]bool{"CALL": true, "CALLCODE": true, "DELEGATECALL": false, "STATICCALL": false}
}

// calling is code that calls: with a value, if the kind has one, data (at, size), and room for the answer (at, size).
func calling(kind, to, value, gas string, at, size, outAt, outSize uint64) string {
	l := []string{number(outSize), number(outAt), number(size), number(at)}
	if kinds()[kind] {
		l = append(l, value)
	}
	return strings.Join(append(l, to, gas, kind), " ") + " "
}

// context is code that answers who runs it: ADDRESS, CALLER, CALLVALUE, ORIGIN, CALLDATASIZE, the data's first word, CODESIZE, GASPRICE.
const context = "ADDRESS 0 MSTORE CALLER 32 MSTORE CALLVALUE 64 MSTORE ORIGIN 96 MSTORE CALLDATASIZE 128 MSTORE 0 CALLDATALOAD 160 MSTORE CODESIZE 192 MSTORE GASPRICE 224 MSTORE 256 0 RETURN"

// TestContexts: as whom, for whom, and with what each kind of call runs code.
func TestContexts(t *testing.T) {
	callee := at(0x77)
	for kind, hasValue := range kinds() {
		text := "0xabcd 0 MSTORE " + calling(kind, "0x77", "3", "GAS", 30, 2, 0, 0) + "0 0 MSTORE RETURNDATASIZE 0 0 RETURNDATACOPY RETURNDATASIZE 0 RETURN"
		w := worldOf(text, entry(callee, 50, context))
		m := plain(enough)
		m.Value = api.Word{1}
		w.SetBalance(caller, api.Word{1})
		r, l := vm.Call(w, block(), at(0x0b), m)
		who, from, value := callee, me, api.Word{}
		if hasValue {
			value = api.Word{3}
		}
		switch kind {
		case "CALLCODE":
			who = me
		case "DELEGATECALL":
			who, from, value = me, caller, api.Word{1}
		}
		want := []api.Word{word.Wide(who), word.Wide(from), value, {0x0b}, {2}, {0, 0, 0, 0xabcd << 48}, word.From(uint64(len(assemble(context)))), {14}}
		for i, v := range want {
			if len(r.Out) != 256 || word.Read(r.Out[32*i:32*i+32]) != v {
				t.Errorf("%s: the word %d is not %v: %v", kind, i, v, r)
			}
		}
		paid := uint64(0)
		if kind == "CALL" {
			paid = 3
		}
		if w.Balance(me) != word.From(101-paid) || w.Balance(callee) != word.From(50+paid) || w.Balance(caller) != (api.Word{}) {
			t.Errorf("%s: the balances are %v", kind, w.Entries())
		}
		for _, e := range l {
			if e.Depth == 1 && e.Self != who {
				t.Errorf("%s: %v", kind, e)
			}
		}
	}
}

// TestCallWrites: whose slots a call sets.
func TestCallWrites(t *testing.T) {
	for kind := range kinds() {
		_, _, w := run(calling(kind, "0x77", "0", "GAS", 0, 0, 0, 0), enough, entry(at(0x77), 0, "5 3 SSTORE 9 8 0 0 LOG2"))
		mine, other := w.Slot(me, api.Word{3}), w.Slot(at(0x77), api.Word{3})
		want := [2]api.Word{{5}, {}}
		switch kind {
		case "CALL":
			want = [2]api.Word{{}, {5}}
		case "STATICCALL":
			want = [2]api.Word{}
		}
		if [2]api.Word{mine, other} != want {
			t.Errorf("%s: %v, %v", kind, mine, other)
		}
	}
}

// ends are codes that end in all ways: what a call of them pushes, and answers.
func ends() map[string]struct {
	is  uint64
	out []byte
} {
	out := word.Bytes(word.From(0x0102030405))
	return map[string]struct {
		is  uint64
		out []byte
	}{
		"0x0102030405 0 MSTORE 32 0 RETURN": {1, out}, "0x0102030405 0 MSTORE 5 27 RETURN": {1, out[27:]}, "0x0102030405 0 MSTORE 5 27 REVERT": {0, out[27:]}, "0 0 REVERT": {}, "STOP": {is: 1}, "1 POP": {is: 1},
		"0x0102030405 0 MSTORE #fe": {}, "POP": {}, "1 JUMP": {}, "0x55 SELFDESTRUCT": {is: 1},
	}
}

// TestAnswers: what a call pushes, what it leaves in memory, and what RETURNDATACOPY finds.
func TestAnswers(t *testing.T) {
	for text, x := range ends() {
		for kind := range kinds() {
			if kind == "STATICCALL" && strings.Contains(text, "SELFDESTRUCT") {
				continue
			}
			for _, size := range []uint64{0, 3, 5, 7, 32, 40} {
				code := digits(all) + " 0 MSTORE " + digits(all) + " 32 MSTORE " + digits(all) + " 64 MSTORE " + calling(kind, "0x77", "0", "50000", 0, 0, 10, size)
				r, _, _ := run(code+"128 MSTORE RETURNDATASIZE 160 MSTORE RETURNDATASIZE 0 192 RETURNDATACOPY 256 0 RETURN", enough, entry(at(0x77), 0, text))
				want := append(bytes.Repeat([]byte{0xff}, 96), make([]byte, 160)...)
				copy(want[10:10+size], x.out)
				copy(want[128:], word.Bytes(word.From(x.is)))
				copy(want[160:], word.Bytes(word.From(uint64(len(x.out)))))
				copy(want[192:], x.out)
				if !bytes.Equal(r.Out, want) {
					t.Errorf("%s of %s, room for %d: %x, want %x", kind, text, size, r.Out, want)
				}
			}
		}
	}
}

// TestBack: a call that is not made, or has no code, leaves nothing to RETURNDATACOPY; what was left before is gone.
func TestBack(t *testing.T) {
	first := calling("CALL", "0x77", "0", "GAS", 0, 0, 0, 0) + "POP RETURNDATASIZE 32 EQ "
	for second, want := range map[string]uint64{
		"": 32, calling("CALL", "0x66", "0", "GAS", 0, 0, 0, 0): 0, calling("CALL", "0x77", "200", "GAS", 0, 0, 0, 0): 0, calling("CALLCODE", "0x77", "200", "GAS", 0, 0, 0, 0): 0, "0 0 200 CREATE": 0, "0 0 0 CREATE": 0, "0 0 0 200 CREATE2": 0,
		calling("CALL", "4", "0", "GAS", 0, 7, 0, 0): 7, calling("CALL", "4", "0", "17", 0, 7, 0, 0): 0, "0x61000760" + "00fd 0 MSTORE 0 0 0 CREATE": 0, "0x600760" + "00fd 0 MSTORE 5 27 0 CREATE": 7,
	} {
		if got := answer(t, first+second+" RETURNDATASIZE", entry(at(0x77), 0, answering32)); got != word.From(want) {
			t.Errorf("%s: %v, want %d", second, got, want)
		}
	}
}

// answering32 is code that answers 32 bytes.
const answering32 = "7 0 MSTORE 32 0 RETURN"

// TestReturnAddressing: a call's own output does not change with the memory of who made it.
func TestReturnAddressing(t *testing.T) {
	text := "0x11 0 MSTORE8 " + calling("CALL", "4", "0", "GAS", 0, 4, 0, 0) + "POP 0x22 0 MSTORE8 4 0 32 RETURNDATACOPY 64 0 RETURN"
	r, _, _ := run(text, enough)
	want := make([]byte, 64)
	want[0], want[32] = 0x22, 0x11
	if !bytes.Equal(r.Out, want) {
		t.Errorf("%x, want %x", r.Out, want)
	}
	// what was answered stays, while another call with its own memory answers something else
	text = calling("CALL", "0x77", "0", "GAS", 0, 0, 0, 32) + "POP 9 0 MSTORE 32 0 32 RETURNDATACOPY 64 0 RETURN"
	r, _, _ = run(text, enough, entry(at(0x77), 0, answering32))
	if !bytes.Equal(r.Out, append(word.Bytes(word.From(9)), word.Bytes(word.From(7))...)) {
		t.Errorf("%x", r.Out)
	}
}

// TestGasGiven: how much gas the callee has, and what of it comes back.
func TestGasGiven(t *testing.T) {
	const gas = 100000
	tells := entry(at(0x77), 0, "GAS 0 MSTORE 32 0 RETURN") // what it has behind GAS; this needs 17
	for kind, hasValue := range kinds() {
		for _, value := range []uint64{0, 1} {
			left, stipend := uint64(gas-6*3-2600), uint64(0) // behind the cost
			if hasValue {
				left -= 3
			}
			if value > 0 {
				left, stipend = left-9000, 2300
			}
			if value > 0 && !hasValue {
				continue
			}
			for _, asked := range []api.Word{{}, {16}, {17}, {100}, {5000}, {left - left/64 - 1}, {left - left/64}, {left - left/64 + 1}, {left}, {most}, {100, 1}, all} {
				given := left - left/64
				if asked == (api.Word{asked[0]}) {
					given = min(given, asked[0])
				}
				want := [2]uint64{left - given - 2 - 2} // behind POP and GAS
				if had := given + stipend; had >= 17 {
					want[0] += had - 17
					want[1] = had - 2
				}
				text := calling(kind, "0x77", number(value), digits(asked), 0, 0, 32, 32) + "POP GAS 0 MSTORE 64 0 RETURN"
				r, _, _ := run(text, gas+6, tells) // 6 for the room for the answer
				if len(r.Out) != 64 || word.Read(r.Out[:32]) != word.From(want[0]) || word.Read(r.Out[32:]) != word.From(want[1]) {
					t.Errorf("%s of value %d, %v gas: %v, want %d", kind, value, asked, r, want)
				}
			}
		}
	}
}

// TestFunds: a call whose value there is not is not made, and leaves its gas; so from without.
func TestFunds(t *testing.T) {
	for _, value := range []api.Word{{99}, {100}, {101}, {0, 1}, {100, 0, 0, 1}, all} {
		for _, kind := range []string{"CALL", "CALLCODE"} {
			may := value == api.Word{value[0]} && value[0] <= 100
			r, l, w := run(calling(kind, "0x77", digits(value), "50000", 0, 0, 0, 0)+"0 MSTORE 32 0 RETURN", enough, entry(at(0x77), 1, "ADDRESS BALANCE POP 1 1 SSTORE"))
			if word.Read(r.Out) != word.From(map[bool]uint64{true: 1}[may]) || (w.Slot(at(0x77), api.Word{1}) != api.Word{} || w.Slot(me, api.Word{1}) != api.Word{}) != may {
				t.Errorf("%s of %v: %v, %v", kind, value, r, w.Entries())
			}
			if used := enough - r.Gas; !may && used != 21+2600+9000-2300+15 {
				t.Errorf("%s of %v: used %d", kind, value, used)
			}
			for _, e := range l {
				if !may && e.Depth > 0 {
					t.Errorf("%s of %v: %v", kind, value, e)
				}
			}
		}
		for _, m := range []api.Message{{To: me}, {To: at(2)}, {To: at(4)}, {To: at(0x66)}, {Create: true}} {
			m.From, m.Value, m.Gas = caller, value, 90000
			w := worldOf("JUMPDEST")
			w.SetBalance(caller, api.Word{100})
			before := w.Entries()
			r, l := vm.Call(w, block(), caller, m)
			if may := value == (api.Word{value[0]}) && value[0] <= 100; may != (r.Status == api.DoneOK) {
				t.Errorf("%v: %v", m, r)
			} else if !may && (!sameResult(r, api.Result{Status: api.DoneFault, Fault: api.ErrVMFunds, Gas: 90000}) || len(l) > 0 || !sample.SameEntries(before, w.Entries())) {
				t.Errorf("%v: %v, %v, %v", m, r, l, w.Entries())
			}
		}
	}
}

// TestToOneself: a value that is paid to who pays it.
func TestToOneself(t *testing.T) {
	r, _, w := run("CALLVALUE 27 JUMPI 0 0 0 0 70 ADDRESS 50000 CALL 0 MSTORE 32 0 RETURN JUMPDEST", enough)
	if word.Read(r.Out) != (api.Word{1}) || w.Balance(me) != (api.Word{100}) {
		t.Errorf("%v, %v", r, w.Entries())
	}
	m := plain(enough)
	m.From, m.Value = me, api.Word{70}
	if r, _ := vm.Call(w, block(), caller, m); r.Status != api.DoneOK || w.Balance(me) != (api.Word{100}) {
		t.Errorf("%v, %v", r, w.Entries())
	}
}

// TestTaken: what a call that fails has done is taken back; what was done ahead of it, and behind it, stays.
func TestTaken(t *testing.T) {
	does := "7 1 SSTORE 0 1 SSTORE 7 2 SSTORE 1 0 0 LOG1 0 0 0 0 5 0x56 0 CALL POP 0x57 BALANCE POP 9 SLOAD POP 0 0 3 CREATE POP "
	for _, end := range []string{"0 0 REVERT", "#fe", "POP", "POP POP", "0 JUMP", "1 0 0 RETURNDATACOPY", digits(all) + " MLOAD"} {
		for _, kind := range []string{"CALL", "CALLCODE", "DELEGATECALL"} {
			text := "3 5 SSTORE 2 0 0 LOG1 " + calling(kind, "0x77", "1", "200000", 0, 0, 0, 0) + "4 6 SSTORE 3 0 0 LOG1 POP"
			r, _, w := run(text, enough, entry(at(0x77), 50, does+end))
			v := worldOf(text, entry(at(0x77), 50, does+end))
			v.SetSlot(me, api.Word{5}, api.Word{3})
			v.SetSlot(me, api.Word{6}, api.Word{4})
			logs := []api.Log{{Addr: me, Topics: []api.Word{{2}}}, {Addr: me, Topics: []api.Word{{3}}}}
			if r.Status != api.DoneOK || !sample.SameEntries(w.Entries(), v.Entries()) || !sample.SameLogs(w.Logs(), logs) || w.Refunds() != 0 {
				t.Errorf("%s that ends with %s: %v, %v, %v, %d", kind, end, r, w.Entries(), w.Logs(), w.Refunds())
			}
			if w.Touch(at(0x56)) || w.Touch(at(0x57)) || w.TouchSlot(at(0x77), api.Word{9}) || w.TouchSlot(me, api.Word{9}) || !w.Touch(at(0x77)) || !w.TouchSlot(me, api.Word{5}) {
				t.Errorf("%s that ends with %s: what was touched is not as before", kind, end)
			}
		}
		w := worldOf(does + end)
		m := plain(200000)
		m.Value = api.Word{4}
		w.SetBalance(caller, api.Word{4})
		w.Log(api.Log{})
		w.Refund(7)
		before := w.Entries()
		r, _ := vm.Call(w, block(), caller, m)
		if r.Status == api.DoneOK || !sample.SameEntries(w.Entries(), before) || len(w.Logs()) != 1 || w.Refunds() != 7 || w.Touch(at(0x57)) {
			t.Errorf("%s: %v, %v", end, r, w.Entries())
		}
	}
}

// TestOutermost: how the outermost frame ends.
func TestOutermost(t *testing.T) {
	for _, x := range []struct {
		text string
		want api.Result
	}{
		{"STOP", api.Result{Status: api.DoneOK, Gas: 1000}}, {"0 0 RETURN", api.Result{Status: api.DoneOK, Gas: 994}}, {"2 31 RETURN", api.Result{Status: api.DoneOK, Gas: 988, Out: make([]byte, 2)}},
		{"2 31 REVERT", api.Result{Status: api.DoneRevert, Gas: 988, Out: make([]byte, 2)}}, {"0 0 REVERT", api.Result{Status: api.DoneRevert, Gas: 994}}, {"#fe", api.Result{Status: api.DoneFault, Fault: api.ErrVMOp}},
	} {
		if r, _, _ := run(x.text, 1000); !sameResult(r, x.want) {
			t.Errorf("%s: %v, want %v", x.text, r, x.want)
		}
	}
	r, l := vm.Call(worldOf(""), block(), caller, api.Message{From: caller, To: at(0x66), Data: []byte{1}, Gas: 1000})
	if !sameResult(r, api.Result{Status: api.DoneOK, Gas: 1000}) || len(l) > 0 {
		t.Errorf("of no code: %v, %v", r, l)
	}
}

// TestDepth: frames in one another, down to the one of depth 1024, which cannot call or create.
func TestDepth(t *testing.T) {
	for kind := range kinds() {
		text := calling(kind, "ADDRESS", "0", "GAS", 0, 0, 0, 0)
		r, l, _ := run(text, 1<<40)
		deepest, calls := 0, 0
		for _, e := range l {
			deepest = max(deepest, e.Depth)
			if e.Op == opcodes[kind] {
				calls++
			}
			if e.Fault != api.OK {
				t.Fatalf("%s: %v", kind, e)
			}
		}
		if r.Status != api.DoneOK || deepest != 1024 || calls != 1025 {
			t.Errorf("%s: %v, depth %d, %d calls", kind, r, deepest, calls)
		}
	}
	for _, last := range []string{"0 0 0 0 0 0x66 50000 CALL", "0 0 0 0 0x66 50000 STATICCALL", "0 0 0 CREATE", "0 0 0 0 CREATE2"} {
		_, l, _ := run("0 0 0 0 0 ADDRESS GAS CALL ISZERO 18 JUMPI STOP JUMPDEST "+last+" GAS", 1<<40)
		var deep []api.Event
		for _, e := range l {
			if e.Depth == 1024 {
				deep = append(deep, e)
			}
		}
		if n := len(deep); n < 3 || deep[n-1].Op != 0 || deep[n-2].Op != 0x5a || deep[n-1].Fault != api.OK {
			t.Errorf("%s: %v", last, deep)
		}
	}
}

// TestDepthGas: at depth 1024 a call's gas comes back, stipend and all, and a creation's.
func TestDepthGas(t *testing.T) {
	for last, cost := range map[string]uint64{
		"0 0 0 0 0 0x55 50000 CALL": 21 + 2600, "0 0 0 0 3 0x55 50000 CALL": 21 + 2600 + 9000 - 2300, "0 0 0 0 0x55 GAS STATICCALL": 17 + 2600, "0 0 0 CREATE": 9 + 32000, "0 0 0 0 CREATE2": 12 + 32000,
	} {
		// each frame calls itself; where that fails, which is at depth 1024 alone, it does the last thing, and answers the result and its cost
		text := "64 0 0 0 0 ADDRESS GAS CALL ISZERO 22 JUMPI 64 0 RETURN JUMPDEST GAS " + last + " 0 MSTORE GAS SWAP1 SUB 32 MSTORE 64 0 RETURN"
		r, _, w := run(text, 1<<40, rich)
		const around = 3 + 3 + 2 // the MSTORE that follows, and GAS
		if len(r.Out) != 64 || word.Read(r.Out[:32]) != (api.Word{}) || word.Read(r.Out[32:]) != word.From(cost+around) {
			t.Errorf("%s: %v, want %d", last, r, cost+around)
		}
		if w.Nonce(me) != 0 || w.Balance(me) != (api.Word{100}) {
			t.Errorf("%s: %v", last, w.Entries())
		}
	}
}

// TestDestroy: who inherits, at once; and who is dead, when the transaction ends.
func TestDestroy(t *testing.T) {
	for _, x := range []struct {
		heir        string
		mine, their uint64
	}{{"0x55", 0, 109}, {"ADDRESS", 0, 9}, {digits(api.Word{0x55, 0, 1 << 32}), 0, 109}} {
		r, l, w := run("5 1 SSTORE "+x.heir+" SELFDESTRUCT 9 9 SSTORE", enough, rich)
		if r.Status != api.DoneOK || len(r.Out) > 0 || w.Balance(me) != word.From(x.mine) || w.Balance(at(0x55)) != word.From(x.their) || w.Slot(me, api.Word{9}) != (api.Word{}) || len(w.Code(me)) == 0 || w.Slot(me, api.Word{1}) != (api.Word{5}) {
			t.Errorf("%s: %v, %v", x.heir, r, w.Entries())
		}
		if l[len(l)-1].Op != 0xff {
			t.Errorf("%s: %v", x.heir, l)
		}
		w.End()
		if !sample.SameEntries(w.Entries(), []api.Entry{{Addr: at(0x55), Account: api.Account{Balance: word.From(x.their)}}}) {
			t.Errorf("%s: %v", x.heir, w.Entries())
		}
	}
	// by delegation: it is the one as whom the code is run that dies
	_, _, w := run(calling("DELEGATECALL", "0x77", "", "GAS", 0, 0, 0, 0), enough, rich, entry(at(0x77), 3, "0x55 SELFDESTRUCT"))
	w.End()
	want := store.New([]api.Entry{entry(at(0x77), 3, "0x55 SELFDESTRUCT"), {Addr: at(0x55), Account: api.Account{Balance: api.Word{109}}}})
	if !sample.SameEntries(w.Entries(), want.Entries()) {
		t.Errorf("%v", w.Entries())
	}
}
