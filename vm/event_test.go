package vm_test

import (
	"bytes"
	"strings"
	"testing"

	"quaestor/api"
	"quaestor/desk"
	"quaestor/keccak"
	"quaestor/sample"
	"quaestor/vm"
	"quaestor/word"
)

// eventsOf are those of one operation in what code does, without who did them, and how deep.
func eventsOf(text string, op byte, more ...api.Entry) []api.Event {
	_, all, _ := run(text, enough, more...)
	var l []api.Event
	for _, e := range all {
		if e.Op == op && e.Depth == 0 && e.Self == me {
			e.Self = api.Address{}
			l = append(l, e)
		}
	}
	return l
}

// TestEvents: what events tell beside the operation.
func TestEvents(t *testing.T) {
	high := digits(api.Word{0x55, 0, 1 << 32, 1}) // an address, and what is none of it
	const data = "0x0102030405 0 MSTORE "         // from 27 on
	for text, want := range map[string]api.Event{
		"7 SLOAD": {Arg: api.Word{7}}, digits(all) + " SLOAD": {Arg: all}, "8 7 SSTORE": {Arg: api.Word{7}, Value: api.Word{8}}, "0 " + digits(all) + " SSTORE": {Arg: all},
		"0x55 BALANCE": {Arg: api.Word{0x55}}, high + " BALANCE": {Arg: api.Word{0x55}}, high + " EXTCODESIZE": {Arg: api.Word{0x55}}, high + " EXTCODEHASH": {Arg: api.Word{0x55}}, "0 0 0 " + high + " EXTCODECOPY": {Arg: api.Word{0x55}}, high + " SELFDESTRUCT": {Arg: api.Word{0x55}},
		"0 0 0 0 0 " + high + " 0 CALL": {Arg: api.Word{0x55}}, "0 0 0 0 3 0x55 0 CALL": {Arg: api.Word{0x55}, Value: api.Word{3}}, "0 0 0 0 " + digits(all) + " 0x55 0 CALL": {Arg: api.Word{0x55}, Value: all}, "0 0 0 0 3 " + high + " 0 CALLCODE": {Arg: api.Word{0x55}, Value: api.Word{3}},
		"0 0 0 0 " + high + " 0 DELEGATECALL": {Arg: api.Word{0x55}}, "0 0 0 0 " + high + " 0 STATICCALL": {Arg: api.Word{0x55}},
		data + "0 0 5 27 0 0x55 0 CALL": {Arg: api.Word{0x55}, Data: []byte{1, 2, 3, 4}}, data + "0 0 4 27 0 0x55 0 CALL": {Arg: api.Word{0x55}, Data: []byte{1, 2, 3, 4}}, data + "0 0 3 27 0 0x55 0 CALLCODE": {Arg: api.Word{0x55}, Data: []byte{1, 2, 3}},
		data + "0 0 1 28 0x55 0 DELEGATECALL": {Arg: api.Word{0x55}, Data: []byte{2}}, data + "0 0 32 30 0x55 0 STATICCALL": {Arg: api.Word{0x55}, Data: []byte{4, 5, 0, 0}}, data + "32 0 0 27 0x55 0 STATICCALL": {Arg: api.Word{0x55}},
		"0 0 KECCAK256": {Value: keccak.Sum(nil)}, data + "3 29 KECCAK256": {Value: keccak.Sum([]byte{3, 4, 5}), Data: []byte{3, 4, 5}}, "128 0 KECCAK256": {Value: keccak.Sum(make([]byte, 128)), Data: make([]byte, 128)}, "129 0 KECCAK256": {Value: keccak.Sum(make([]byte, 129))},
		"0 0 5 CREATE": {Arg: word.Wide(vm.Made(me, 0)), Value: api.Word{5}}, "0 0 101 CREATE": {Arg: word.Wide(vm.Made(me, 0)), Value: api.Word{101}}, "8 1 0 5 CREATE2": {Arg: word.Wide(vm.Made2(me, api.Word{8}, []byte{0})), Value: api.Word{5}},
		data + digits(all) + " 3 29 0 CREATE2": {Arg: word.Wide(vm.Made2(me, all, []byte{3, 4, 5}))},
		"0 MLOAD":                              {}, "9 8 ADD": {}, "0x01020304": {}, "9 0 MSTORE": {}, "1 1 LOG0": {}, "SELFBALANCE": {}, "5 CALLDATALOAD": {}, "3 0 0 CALLDATACOPY": {}, "3 0 RETURN": {}, "3 0 REVERT": {}, "GAS": {}, "9 DUP1": {}, "5 BLOCKHASH": {}, "1 5 JUMPI JUMPDEST": {},
	} {
		code := assemble(text)
		want.Op = code[len(code)-1]
		if strings.HasPrefix(text, "0x01") && len(code) == 5 {
			want.Op = code[0]
		}
		l := eventsOf(text, want.Op)
		if len(l) != 1 || !sample.SameEvent(l[0], want) {
			t.Errorf("%s: %v, want %v", text, l, want)
		}
	}
}

// TestEventsInTurn: all events of frames in one another.
func TestEventsInTurn(t *testing.T) {
	inner := entry(at(0x77), 0, "1 2 3 SSTORE POP #fe")
	_, l, _ := run("0 0 0 0 5 0x77 30000 CALL ISZERO", enough, inner)
	push := func(n, depth int, self api.Address) api.Event {
		return api.Event{Op: byte(0x5f + n), Depth: depth, Self: self}
	}
	want := []api.Event{
		push(1, 0, me), push(1, 0, me), push(1, 0, me), push(1, 0, me), push(1, 0, me), push(1, 0, me), push(2, 0, me),
		{Op: 0xf1, Self: me, Arg: api.Word{0x77}, Value: api.Word{5}},
		push(1, 1, at(0x77)), push(1, 1, at(0x77)), push(1, 1, at(0x77)), {Op: 0x55, Depth: 1, Self: at(0x77), Arg: api.Word{3}, Value: api.Word{2}}, {Op: 0x50, Depth: 1, Self: at(0x77)},
		{Op: 0xfe, Depth: 1, Self: at(0x77), Fault: api.ErrVMOp},
		{Op: 0x15, Self: me}, {Self: me},
	}
	if len(l) != len(want) {
		t.Fatalf("%v, want %v", l, want)
	}
	for i := range want {
		if !sample.SameEvent(l[i], want[i]) {
			t.Errorf("event %d: %v, want %v", i, l[i], want[i])
		}
	}
}

// TestFaultEvents: the operation and the fault, with nothing of what it would have done; where it was done first, that, too.
func TestFaultEvents(t *testing.T) {
	for _, x := range []struct {
		text  string
		gas   uint64
		fault api.Errno
		done  bool
	}{
		{"7 SLOAD", 100, api.ErrVMGas, false}, {"8 7 SSTORE", 3000, api.ErrVMGas, false}, {"0x55 BALANCE", 1000, api.ErrVMGas, false}, {"0 0 0 0 1 0x55 0 CALL", 9000, api.ErrVMGas, false}, {"0 0 5 CREATE", 30000, api.ErrVMGas, false}, {"5 5 KECCAK256", 40, api.ErrVMGas, false},
		{"ADD", 100, api.ErrVMStack, false}, {"#0c", 100, api.ErrVMOp, false}, {"1 0 0 RETURNDATACOPY", 100, api.ErrVMRange, true}, {"0 JUMP", 100, api.ErrVMJump, true}, {"1 0 JUMPI", 100, api.ErrVMJump, true},
	} {
		_, l, _ := run(x.text, x.gas)
		code := assemble(x.text)
		op := code[len(code)-1]
		var got []api.Event
		for _, e := range l {
			if e.Op == op {
				got = append(got, e)
			}
		}
		n := len(got) - 1
		if n < 0 || x.done != (n == 1) || !sample.SameEvent(got[n], api.Event{Op: op, Self: me, Fault: x.fault}) || x.done && !sample.SameEvent(got[0], api.Event{Op: op, Self: me}) {
			t.Errorf("%s with %d gas: %v", x.text, x.gas, l)
		}
	}
}

// TestNoEvents: calls that no code is run for have none but that of who calls, unless they cost too much.
func TestNoEvents(t *testing.T) {
	for _, x := range []struct {
		m    api.Message
		want []api.Event
	}{
		{api.Message{To: at(0x66), Gas: 0}, nil}, {api.Message{To: at(2), Gas: 60}, nil}, {api.Message{To: at(4), Gas: 15}, nil}, {api.Message{To: desk.Self(), Gas: 5000}, nil}, {api.Message{To: desk.Self(), Gas: 5000, Data: []byte{1}}, nil},
		{api.Message{To: me, Gas: 9, Value: api.Word{1}}, nil}, {api.Message{Create: true, Gas: 9, Value: api.Word{1}}, nil},
		{api.Message{To: at(2), Gas: 59}, []api.Event{{Self: at(2), Fault: api.ErrVMGas}}}, {api.Message{To: at(4), Gas: 14}, []api.Event{{Self: at(4), Fault: api.ErrVMGas}}}, {api.Message{To: desk.Self(), Gas: 4999}, []api.Event{{Self: desk.Self(), Fault: api.ErrVMGas}}},
		{api.Message{Create: true, Gas: 9}, []api.Event{{Self: vm.Made(caller, 0)}}},
		{api.Message{To: me, Gas: 9}, []api.Event{{Op: 0x5b, Self: me}, {Self: me}}},
	} {
		x.m.From = caller
		_, l := vm.Call(worldOf("JUMPDEST"), block(), caller, x.m)
		same := len(l) == len(x.want)
		for i := range min(len(l), len(x.want)) {
			same = same && sample.SameEvent(l[i], x.want[i])
		}
		if !same {
			t.Errorf("%v: %v, want %v", x.m, l, x.want)
		}
	}
}

// TestEventsFresh: events and outputs share nothing with what was given, nor with each other.
func TestEventsFresh(t *testing.T) {
	const text = "4 0 0 CALLDATACOPY 4 0 KECCAK256 POP 4 0 KECCAK256 POP 0 0 4 0 0x55 GAS STATICCALL POP 0 0 4 0 4 GAS STATICCALL POP 4 0 LOG0 9 0 MSTORE8 4 0 RETURN"
	m := plain(enough)
	w := worldOf(text)
	r, l := vm.Call(w, block(), caller, m)
	if !bytes.Equal(m.Data, []byte{1, 2, 3, 4, 5}) {
		t.Errorf("the data was changed: %v", m.Data)
	}
	clear(m.Data)
	if !bytes.Equal(r.Out, []byte{9, 2, 3, 4}) {
		t.Errorf("%v", r)
	}
	n := 0
	for _, e := range l {
		if len(e.Data) == 0 {
			continue
		}
		n++
		if !bytes.Equal(e.Data, []byte{1, 2, 3, 4}) {
			t.Errorf("%v", e)
		}
		clear(e.Data[:cap(e.Data)])
	}
	if n != 4 || !bytes.Equal(r.Out, []byte{9, 2, 3, 4}) || !bytes.Equal(w.Logs()[0].Data, []byte{1, 2, 3, 4}) {
		t.Errorf("%d events with data, %v, %v", n, r, w.Logs())
	}
	code := w.Code(me)
	clear(r.Out[:cap(r.Out)])
	if !bytes.Equal(code, assemble(text)) {
		t.Error("the code is not as before")
	}
}

// TestOutFresh: what the machine answers itself, or a creation makes, is new memory.
func TestOutFresh(t *testing.T) {
	data := sample.Noise(40, 3)
	kept := bytes.Clone(data)
	for n := range 41 {
		r, _ := vm.Call(worldOf(""), block(), caller, api.Message{To: at(4), Data: data[:n], Gas: 100})
		if !bytes.Equal(r.Out, kept[:n]) {
			t.Errorf("%d bytes: %v", n, r)
		}
		clear(r.Out[:cap(r.Out)])
		if !bytes.Equal(data, kept) {
			t.Fatalf("%d bytes: the answer is the data", n)
		}
	}
	m := api.Message{From: caller, Create: true, Data: assemble("4 0 0 CODECOPY 4 0 RETURN"), Gas: enough}
	w := worldOf("")
	r, _ := vm.Call(w, block(), caller, m)
	want := bytes.Clone(m.Data[:4])
	clear(m.Data)
	if !bytes.Equal(w.Code(r.Made), want) {
		t.Errorf("the code is %x, want %x", w.Code(r.Made), want)
	}
}
