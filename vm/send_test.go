package vm_test

import (
	"bytes"
	"strings"
	"testing"

	"quaestor/api"
	"quaestor/desk"
	"quaestor/sample"
	"quaestor/store"
	"quaestor/vm"
	"quaestor/word"
)

// sender is who sends in these tests, with so much that all can be paid.
var sender = at(0x5e)

func sending(text string, more ...api.Entry) *store.World {
	return worldOf(text, append(more, api.Entry{Addr: sender, Account: api.Account{Nonce: 3, Balance: api.Word{0, 1}}})...)
}

// sent is a message at a price of 14, which is 3 above the base fee.
func sent(gas uint64) api.Message {
	return api.Message{From: sender, To: me, Gas: gas, Price: api.Word{14}}
}

// TestSendPays: who pays what, and what is told.
func TestSendPays(t *testing.T) {
	for _, x := range []struct {
		text       string
		gas        uint64
		used, back uint64
		status     uint8
		fault      api.Errno
		out        []byte
		logs       int
	}{
		{"", 50000, 21000, 0, api.DoneOK, 0, nil, 0}, {"", 21000, 21000, 0, api.DoneOK, 0, nil, 0}, {"JUMPDEST", 21001, 21001, 0, api.DoneOK, 0, nil, 0}, {"JUMPDEST", 21000, 21000, 0, api.DoneFault, api.ErrVMGas, nil, 0},
		{"2 31 RETURN", 50000, 21012, 0, api.DoneOK, 0, make([]byte, 2), 0}, {"0 0 LOG0 0 0 LOG0", 50000, 21762, 0, api.DoneOK, 0, nil, 2}, {"0 0 LOG0 2 31 REVERT", 50000, 21393, 0, api.DoneRevert, 0, make([]byte, 2), 0}, {"0 0 LOG0 #fe", 50000, 50000, 0, api.DoneFault, api.ErrVMOp, nil, 0},
		{"0 8 SSTORE", 50000, 21000 + 5006 - 4800, 4800, api.DoneOK, 0, nil, 0}, {"0 8 SSTORE 0 9 SSTORE", 50000, 31012 - 6202, 6202, api.DoneOK, 0, nil, 0}, {"0 8 SSTORE 0 0 REVERT", 50000, 26012, 0, api.DoneRevert, 0, nil, 0},
		{"0 8 SSTORE 5 8 SSTORE", 50000, 21000 + 5006 + 106 - 2800, 2800, api.DoneOK, 0, nil, 0},
	} {
		w := sending(x.text)
		w.SetSlot(me, api.Word{8}, api.Word{5})
		w.SetSlot(me, api.Word{9}, api.Word{5})
		before, _ := w.Total()
		r, logs, used, errno := vm.Send(w, block(), sent(x.gas))
		want := api.Result{Status: x.status, Fault: x.fault, Gas: x.gas - x.used, Out: x.out}
		if errno != api.OK || used != x.used || !sameResult(r, want) || len(logs) != x.logs {
			t.Errorf("%s with %d gas: %v, %v, %d, %v, want %d, %v", x.text, x.gas, r, logs, used, errno, x.used, want)
		}
		rest, _ := word.Sub(api.Word{0, 1}, word.From(14*x.used))
		after, _ := w.Total()
		burnt, _ := word.Sub(before, after)
		if w.Balance(sender) != rest || w.Balance(at(0xc0)) != word.From(3*x.used) || w.Nonce(sender) != 4 || burnt != word.From(11*x.used) {
			t.Errorf("%s with %d gas: %v", x.text, x.gas, w.Entries())
		}
		if w.Refunds() != 0 || len(w.Logs()) != 0 || w.Touch(sender) || w.Original(me, api.Word{8}) != w.Slot(me, api.Word{8}) {
			t.Errorf("%s: the transaction has not ended", x.text)
		}
	}
}

// TestSendTouches: who is touched from the beginning on, and who is not; nothing of what was touched before.
func TestSendTouches(t *testing.T) {
	for who, want := range map[string]uint64{
		digits(word.Wide(sender)): 100, "ADDRESS": 100, "0xc0": 100, "2": 100, "4": 100, digits(word.Wide(desk.Self())): 100, "0x55": 2600, "3": 2600, "1": 2600, "0": 2600, digits(word.Wide(vm.Made(sender, 3))): 2600,
	} {
		push := uint64(3)
		if who == "ADDRESS" {
			push = 2
		}
		w := sending(who + " BALANCE")
		w.Touch(at(0x55))
		w.Refund(100)
		w.Log(api.Log{})
		r, logs, used, _ := vm.Send(w, block(), sent(50000))
		if used != 21000+push+want || r.Status != api.DoneOK || len(logs) > 0 {
			t.Errorf("%s: %d gas, want %d", who, used, 21000+push+want)
		}
	}
	// a creation touches what it makes, and not its To
	for who, want := range map[string]uint64{"ADDRESS": 100, digits(word.Wide(sender)): 100, "0xc0": 100, digits(word.Wide(me)): 2600, digits(word.Wide(vm.Made(sender, 4))): 2600} {
		m := sent(90000)
		m.Create, m.Data = true, assemble(who+" BALANCE")
		push := uint64(3)
		if who == "ADDRESS" {
			push = 2
		}
		_, _, used, _ := vm.Send(sending(""), block(), m)
		if want += 53000 + 2*((uint64(len(m.Data))+31)/32) + push; used != want+zeros(m.Data) {
			t.Errorf("creation, %s: %d gas, want %d", who, used, want+zeros(m.Data))
		}
	}
}

// zeros is what data costs.
func zeros(data []byte) uint64 {
	n := uint64(bytes.Count(data, []byte{0}))
	return 4*n + 16*(uint64(len(data))-n)
}

// TestSendCreates: an account is made, by the nonce that the sender had.
func TestSendCreates(t *testing.T) {
	for _, x := range []struct {
		init   string
		status uint8
		used   uint64 // by code
		code   []byte
	}{
		{"2 30 RETURN", api.DoneOK, 9 + 400, []byte{0, 0}}, {"", api.DoneOK, 0, nil}, {"2 30 REVERT", api.DoneRevert, 9, nil}, {"#fe", api.DoneFault, 0, nil}, {"0xef 0 MSTORE8 1 0 RETURN", api.DoneFault, 0, nil},
	} {
		m := sent(100000)
		m.Create, m.Data, m.Value = true, assemble(x.init), api.Word{6}
		w := sending("")
		r, _, used, errno := vm.Send(w, block(), m)
		made := vm.Made(sender, 3)
		want := 53000 + 2*((uint64(len(m.Data))+31)/32) + zeros(m.Data) + x.used
		if x.status == api.DoneFault {
			want = 100000
		}
		if errno != api.OK || r.Status != x.status || used != want || r.Gas != 100000-want || w.Nonce(sender) != 4 || !bytes.Equal(w.Code(made), x.code) {
			t.Errorf("%s: %v, %d gas, want %d, %v", x.init, r, used, want, w.Entries())
		}
		if is := x.status == api.DoneOK; is != (r.Made == made) || is != (w.Balance(made) == api.Word{6}) || is != (w.Nonce(made) == 1) || !is && r.Made != (api.Address{}) {
			t.Errorf("%s: %v, %v", x.init, r, w.Entries())
		}
	}
	m := sent(100000)
	m.Create = true
	w := sending("", entry(vm.Made(sender, 3), 0, "STOP"))
	if r, _, used, _ := vm.Send(w, block(), m); r.Fault != api.ErrVMCollide || used != 100000 || w.Nonce(sender) != 4 {
		t.Errorf("%v, %d", r, used)
	}
}

// TestSendOrigin: the origin is the sender, in all frames.
func TestSendOrigin(t *testing.T) {
	const text = "ORIGIN CALLER EQ GASPRICE 14 EQ AND TIMESTAMP 7 EQ AND CALLVALUE 5 EQ AND CALLDATASIZE 3 EQ AND 0 MSTORE 32 0 RETURN"
	m := sent(100000)
	m.Value, m.Data = api.Word{5}, []byte{0, 1, 0}
	w := sending(text)
	r, _, used, _ := vm.Send(w, block(), m)
	if word.Read(r.Out) != (api.Word{1}) || w.Balance(me) != (api.Word{105}) {
		t.Errorf("%v", r)
	}
	rest, _ := word.Sub(api.Word{0, 1}, word.From(14*used+5))
	if w.Balance(sender) != rest {
		t.Errorf("%v", w.Entries())
	}
}

// TestSendErrors: the edges of each, in their order.
func TestSendErrors(t *testing.T) {
	long := make([]byte, 49153)
	code := api.Account{Nonce: 3, Balance: api.Word{0, 1}, Code: []byte{0}}
	for name, x := range map[string]struct {
		change func(m *api.Message, b *api.Block, a *api.Account)
		want   api.Errno
	}{
		"none":                {func(*api.Message, *api.Block, *api.Account) {}, api.OK},
		"the block's limit":   {func(m *api.Message, b *api.Block, _ *api.Account) { b.GasLimit = m.Gas }, api.OK},
		"above it":            {func(m *api.Message, b *api.Block, _ *api.Account) { b.GasLimit = m.Gas - 1 }, api.ErrLimit},
		"2^40":                {func(m *api.Message, _ *api.Block, _ *api.Account) { m.Gas = 1 << 40 }, api.OK},
		"above 2^40":          {func(m *api.Message, _ *api.Block, _ *api.Account) { m.Gas = 1<<40 + 1 }, api.ErrLimit},
		"the least":           {func(m *api.Message, _ *api.Block, _ *api.Account) { m.Gas = 21000 }, api.OK},
		"below it":            {func(m *api.Message, _ *api.Block, _ *api.Account) { m.Gas = 20999 }, api.ErrVMGas},
		"none at all":         {func(m *api.Message, _ *api.Block, _ *api.Account) { m.Gas = 0 }, api.ErrVMGas},
		"with data":           {func(m *api.Message, _ *api.Block, _ *api.Account) { m.Gas, m.Data = 21020, []byte{0, 1} }, api.OK},
		"below it with data":  {func(m *api.Message, _ *api.Block, _ *api.Account) { m.Gas, m.Data = 21019, []byte{0, 1} }, api.ErrVMGas},
		"creation":            {func(m *api.Message, _ *api.Block, _ *api.Account) { m.Gas, m.Create = 53000, true }, api.OK},
		"below creation":      {func(m *api.Message, _ *api.Block, _ *api.Account) { m.Gas, m.Create = 52999, true }, api.ErrVMGas},
		"the base fee":        {func(m *api.Message, _ *api.Block, _ *api.Account) { m.Price = api.Word{11} }, api.OK},
		"below it, the price": {func(m *api.Message, _ *api.Block, _ *api.Account) { m.Price = api.Word{10} }, api.ErrVMFunds},
		"a great base fee":    {func(m *api.Message, b *api.Block, _ *api.Account) { b.BaseFee = api.Word{0, 0, 1} }, api.ErrVMFunds},
		"all it has":          {func(m *api.Message, _ *api.Block, a *api.Account) { a.Balance = word.From(14 * m.Gas) }, api.OK},
		"more than it has":    {func(m *api.Message, _ *api.Block, a *api.Account) { a.Balance = word.From(14*m.Gas - 1) }, api.ErrVMFunds},
		"all with a value": {func(m *api.Message, _ *api.Block, a *api.Account) {
			a.Balance, m.Value = word.From(14*m.Gas+9), api.Word{9}
		}, api.OK},
		"more with a value": {func(m *api.Message, _ *api.Block, a *api.Account) {
			a.Balance, m.Value = word.From(14*m.Gas+8), api.Word{9}
		}, api.ErrVMFunds},
		"a great value": {func(m *api.Message, _ *api.Block, a *api.Account) { a.Balance, m.Value = all, all }, api.ErrVMFunds},
		"a great sum": {func(m *api.Message, _ *api.Block, a *api.Account) {
			a.Balance, m.Value = all, api.Word{most - 14*m.Gas + 1, most, most, most}
		}, api.ErrVMFunds},
		"the greatest sum": {func(m *api.Message, _ *api.Block, a *api.Account) {
			a.Balance, m.Value = all, api.Word{most - 14*m.Gas, most, most, most}
		}, api.OK},
		"a great price": {func(m *api.Message, _ *api.Block, a *api.Account) {
			a.Balance, m.Price = all, api.Word{0, 0, 0, 1 << 63}
		}, api.ErrVMFunds},
		"a price that is 0": {func(m *api.Message, b *api.Block, a *api.Account) {
			b.BaseFee, m.Price, a.Balance = api.Word{}, api.Word{}, api.Word{}
		}, api.OK},
		"code":           {func(m *api.Message, _ *api.Block, a *api.Account) { *a = code }, api.ErrArg},
		"the last nonce": {func(m *api.Message, _ *api.Block, a *api.Account) { a.Nonce = most }, api.ErrArg},
		"the one ahead":  {func(m *api.Message, _ *api.Block, a *api.Account) { a.Nonce = most - 1 }, api.OK},
		"long code": {func(m *api.Message, _ *api.Block, _ *api.Account) {
			m.Create, m.Data, m.Gas = true, long[:49152], 1000000
		}, api.OK},
		"too long code":      {func(m *api.Message, _ *api.Block, _ *api.Account) { m.Create, m.Data, m.Gas = true, long, 1000000 }, api.ErrVMCode},
		"long data":          {func(m *api.Message, _ *api.Block, _ *api.Account) { m.Data, m.Gas = long, 1000000 }, api.OK},
		"limit ahead of gas": {func(m *api.Message, b *api.Block, _ *api.Account) { m.Gas, b.GasLimit = 20000, 19999 }, api.ErrLimit},
		"gas ahead of funds": {func(m *api.Message, b *api.Block, a *api.Account) { m.Gas, a.Balance = 20000, api.Word{} }, api.ErrVMGas},
		"funds ahead of code": {func(m *api.Message, b *api.Block, a *api.Account) {
			m.Create, m.Data, m.Gas, a.Balance = true, long, 1000000, api.Word{}
		}, api.ErrVMFunds},
		"code ahead of account": {func(m *api.Message, b *api.Block, a *api.Account) {
			m.Create, m.Data, m.Gas, *a = true, long, 1000000, code
		}, api.ErrVMCode},
	} {
		m, b, a := sent(50000), block(), api.Account{Nonce: 3, Balance: api.Word{0, 1}}
		x.change(&m, &b, &a)
		w := worldOf("JUMPDEST", api.Entry{Addr: sender, Account: a})
		w.Touch(at(0x99))
		before := w.Entries()
		r, logs, used, errno := vm.Send(w, b, m)
		if errno != x.want {
			t.Errorf("%s: %v, want %v", name, errno, x.want)
		}
		if errno != api.OK && (!sameResult(r, api.Result{}) || len(logs) > 0 || used != 0 || !sample.SameEntries(w.Entries(), before) || !w.Touch(at(0x99))) {
			t.Errorf("%s: %v, %v, %d, %v", name, r, logs, used, w.Entries())
		}
	}
}

// TestSendToOneself: all that take part may be the same one.
func TestSendToOneself(t *testing.T) {
	b := block()
	b.Coinbase = sender
	m := sent(30000)
	m.To, m.Value = sender, api.Word{5}
	w := sending("")
	r, _, used, errno := vm.Send(w, b, m)
	want, _ := word.Sub(api.Word{0, 1}, word.From(11*21000))
	if errno != api.OK || r.Status != api.DoneOK || used != 21000 || w.Balance(sender) != want || w.Nonce(sender) != 4 {
		t.Errorf("%v, %d, %v", r, used, w.Entries())
	}
}

// TestSendDead: the dead go when the transaction ends, with what they are paid behind their death.
func TestSendDead(t *testing.T) {
	b := block()
	b.Coinbase = me
	w := sending("5 5 SSTORE 0x55 SELFDESTRUCT", rich)
	if r, _, _, _ := vm.Send(w, b, sent(90000)); r.Status != api.DoneOK || w.There(me) || w.Slot(me, api.Word{5}) != (api.Word{}) || w.Balance(at(0x55)) != (api.Word{109}) || len(w.Code(me)) > 0 {
		t.Errorf("%v, %v", r, w.Entries())
	}
	w = sending("5 5 SSTORE 0x55 SELFDESTRUCT", rich)
	if r, _, _, _ := vm.Send(w, b, sent(30000)); r.Status != api.DoneFault || !w.There(me) || len(w.Code(me)) == 0 {
		t.Errorf("%v, %v", r, w.Entries())
	}
}

// TestSendTakenBack: what a call has given back for a slot is taken back where the slot is filled again.
func TestSendTakenBack(t *testing.T) {
	inner := entry(at(0x77), 0, "0 8 SSTORE")
	w := sending(calling("DELEGATECALL", "0x77", "", "GAS", 0, 0, 0, 0)+"POP 9 8 SSTORE", inner)
	w.SetSlot(me, api.Word{8}, api.Word{5})
	_, _, used, _ := vm.Send(w, block(), sent(90000))
	if used != 21000+17+2600+6+5000+2+6+100 {
		t.Errorf("%d gas", used)
	}
}

// TestSendLogs: the logs are those of the transaction, in order, and new.
func TestSendLogs(t *testing.T) {
	w := sending("1 0 MSTORE8 7 1 0 LOG1 2 0 MSTORE8 8 9 1 0 LOG2 " + strings.Repeat("JUMPDEST ", 5))
	w.Log(api.Log{Addr: me})
	data := sample.Noise(30, 1)
	m := sent(90000)
	m.Data = data[:20]
	_, logs, _, _ := vm.Send(w, block(), m)
	want := []api.Log{{Addr: me, Topics: []api.Word{{7}}, Data: []byte{1}}, {Addr: me, Topics: []api.Word{{9}, {8}}, Data: []byte{2}}}
	if !sample.SameLogs(logs, want) || !bytes.Equal(data, sample.Noise(30, 1)) {
		t.Errorf("%v, want %v", logs, want)
	}
}
