package vm_test

import (
	"bytes"
	"strconv"
	"testing"

	"quaestor/api"
	"quaestor/sample"
	"quaestor/store"
	"quaestor/vm"
	"quaestor/word"
)

const most uint64 = 1<<64 - 1

var all = api.Word{most, most, most, most}

// operations are all, opcodes their bytes by their names, and known themselves by their bytes.
var (
	operations = sample.Operations()
	opcodes    = map[string]byte{}
	known      = map[byte]sample.Operation{}
)

func init() {
	for _, o := range operations {
		opcodes[o.Name] = o.Op
		known[o.Op] = o
	}
}

// assemble is the code of a text.
var assemble = sample.Assembler()

// at is an address that is a small number.
func at(n uint64) api.Address { return word.Addr(word.From(n)) }

// digits are a number as assemble reads it.
func digits(a api.Word) string { return sample.Digits(word.Bytes(a)) }

// number is one as assemble reads it.
func number(n uint64) string { return strconv.FormatUint(n, 10) }

// me is the account whose code is run, and caller the one that calls it.
var me, caller = at(0x1001), at(0x1002)

// entry is an account with code.
func entry(a api.Address, balance uint64, text string) api.Entry {
	return api.Entry{Addr: a, Account: api.Account{Balance: word.From(balance), Code: assemble(text)}}
}

// worldOf has an account whose code is run, with a balance of 100, and others.
func worldOf(text string, more ...api.Entry) *store.World {
	return store.New(append([]api.Entry{entry(me, 100, text)}, more...))
}

// block has a different value wherever it may have one.
func block() api.Block {
	return api.Block{Number: 300, Time: 7, GasLimit: 1 << 50, BaseFee: api.Word{11}, Chain: api.Word{12}, Random: api.Word{13, 1}, Coinbase: at(0xc0)}
}

// enough is gas for whatever is run.
const enough = 10_000_000

// plain is a message that runs the code with 5 bytes of data.
func plain(gas uint64) api.Message {
	return api.Message{From: caller, To: me, Data: []byte{1, 2, 3, 4, 5}, Gas: gas, Price: api.Word{14}}
}

// run runs code by a plain message.
func run(text string, gas uint64, more ...api.Entry) (api.Result, []api.Event, *store.World) {
	w := worldOf(text, more...)
	r, l := vm.Call(w, block(), at(0x0b), plain(gas))
	return r, l, w
}

// answer is the word that code leaves on the stack.
func answer(t *testing.T, text string, more ...api.Entry) api.Word {
	t.Helper()
	r, _, _ := run(text+" 0 MSTORE 32 0 RETURN", enough, more...)
	if r.Status != api.DoneOK || len(r.Out) != 32 {
		t.Errorf("%s: %v", text, r)
	}
	return word.Read(r.Out)
}

// spent is what code costs. With a gas less it has too little.
func spent(t *testing.T, text string, more ...api.Entry) uint64 {
	t.Helper()
	r, _, _ := run(text, enough, more...)
	if r.Status != api.DoneOK {
		t.Errorf("%s: %v", text, r)
		return 0
	}
	cost := enough - r.Gas
	if r, _, _ := run(text, cost, more...); r.Status != api.DoneOK || r.Gas != 0 {
		t.Errorf("%s: with its %d gas: %v", text, cost, r)
	}
	if cost > 0 {
		if r, _, _ := run(text, cost-1, more...); r.Status != api.DoneFault || r.Fault != api.ErrVMGas || r.Gas != 0 || len(r.Out) > 0 {
			t.Errorf("%s: with a gas less than its %d: %v", text, cost, r)
		}
	}
	return cost
}

// faultOf is the fault that code ends with.
func faultOf(t *testing.T, text string, gas uint64, more ...api.Entry) api.Errno {
	t.Helper()
	r, l, w := run(text, gas, more...)
	if r.Status != api.DoneFault {
		return api.OK
	}
	if r.Gas != 0 || len(r.Out) > 0 || r.Made != (api.Address{}) {
		t.Errorf("%s: a fault with %v", text, r)
	}
	if !sample.SameEntries(w.Entries(), worldOf(text, more...).Entries()) || w.Refunds() != 0 || len(w.Logs()) > 0 {
		t.Errorf("%s: the World is not as before: %v", text, w.Entries())
	}
	if e := l[len(l)-1]; e.Fault != r.Fault || !sample.SameEvent(e, api.Event{Op: e.Op, Self: me, Fault: r.Fault}) {
		t.Errorf("%s: the last event is %v", text, e)
	}
	return r.Fault
}

func sameResult(a, b api.Result) bool {
	return a.Status == b.Status && a.Fault == b.Fault && a.Gas == b.Gas && bytes.Equal(a.Out, b.Out) && a.Made == b.Made
}
