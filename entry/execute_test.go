package entry_test

import (
	"bytes"
	"testing"

	"quaestor/api"
	"quaestor/desk"
	"quaestor/entry"
	"quaestor/keccak"
	"quaestor/sample"
	"quaestor/store"
	"quaestor/userop"
	"quaestor/word"
)

// execute executes on a World, by the chapter's words on a Copy, too. What both come to, and leave behind, has to be the same.
func execute(t *testing.T, name string, w *store.World, x api.UserOp, c api.Checked) api.Paid {
	t.Helper()
	m := model{w.Copy(), block(), beneficiary}
	want := m.execute(x, c)
	p := entry.Execute(w, block(), beneficiary, x, c)
	if p != want || !sample.SameWorlds(w, m.w, everyone()) {
		t.Errorf("%s: %v, want %v; %v, %v, want %v, %v", name, p, want, w.Entries(), w.Logs(), m.w.Entries(), m.w.Logs())
	}
	return p
}

// checkedOf is what a validation of an operation may have come to.
func checkedOf(x api.UserOp, used uint64, context []byte) api.Checked {
	return api.Checked{Hash: userop.Hash(x, api.Word{12}), Prefund: userop.Prefund(x), Used: used, Context: context}
}

// TestExecutePlain: what an operation costs that does nothing.
func TestExecutePlain(t *testing.T) {
	x := plain()
	for _, used := range []uint64{0, 1, 5000, 100000} {
		w := worldOf(party{me, assemble("#fe"), 0}) // which is not called
		c := checkedOf(x, used, nil)
		p := execute(t, "nothing", w, x, c)
		want := api.Paid{Hash: c.Hash, Success: true, Gas: used + 30000, Cost: word.From(14 * (used + 30000))}
		if p != want || desk.Deposit(w, me) != word.From(prefund(x)-14*(used+30000)) {
			t.Errorf("%v, want %v, %v is left", p, want, desk.Deposit(w, me))
		}
		data := bytes.Join([][]byte{make([]byte, 32), word.Bytes(api.Word{1}), word.Bytes(p.Cost), word.Bytes(word.From(p.Gas))}, nil)
		topics := []api.Word{keccak.Sum([]byte("UserOperationEvent(bytes32,address,address,uint256,bool,uint256,uint256)")), c.Hash, word.Wide(me), {}}
		if l := w.Logs(); !sample.SameLogs(l, []api.Log{{Addr: self, Topics: topics, Data: data}}) {
			t.Errorf("%v", l)
		}
	}
}

// TestExecuteEvent: the name of the log is the one that Ethereum's entry point has.
func TestExecuteEvent(t *testing.T) {
	x := full()
	x.CallData, x.Nonce = nil, api.Word{7, 8}
	w := worldOf()
	p := execute(t, "all", w, x, checkedOf(x, 9, nil))
	l := w.Logs()
	if len(l) != 1 || digits(word.Bytes(l[0].Topics[0])) != "0x49628fd1471006c1482da88028e9ce4dbb080b815c9b0344d39e5a8e6ec1419f" {
		t.Fatalf("%x", l)
	}
	if l[0].Topics[2] != word.Wide(x.Sender) || l[0].Topics[3] != word.Wide(payer) || !bytes.HasPrefix(l[0].Data, word.Bytes(x.Nonce)) || !p.Success {
		t.Errorf("%x", l)
	}
}

// TestExecuteCalls: what the sender is called with, and how that ends.
func TestExecuteCalls(t *testing.T) {
	x := plain()
	x.CallData = sample.Noise(50, 3)
	w := worldOf(party{me, assemble(noting), 0})
	x.CallGas = uses(w.Copy(), self, me, x.CallData, 1<<20)
	for _, y := range []struct {
		gas     uint64
		success bool
	}{{x.CallGas, true}, {x.CallGas - 1, false}, {0, false}, {1 << 20, true}} {
		op, v := x, w.Copy()
		op.CallGas = y.gas
		p := execute(t, "calls", v, op, checkedOf(op, 77, nil))
		want := noted{}
		taken := y.gas
		if y.success {
			taken = x.CallGas
			want = noted{y.gas, word.Wide(self), word.Wide(beneficiary), api.Word{14}, api.Word{}, api.Word{50}, keccak.Sum(x.CallData), word.Wide(me)}
		} else {
			want.gas = 2 // nothing was noted
		}
		if noteOf(v, me) != want || p.Success != y.success || p.Gas != 77+taken+(y.gas-taken)/10 {
			t.Errorf("%d gas: %v, %v, want %v", y.gas, p, noteOf(v, me), want)
		}
	}
	for text, success := range map[string]bool{"STOP": true, "5 0 RETURN": true, "5 0 REVERT": false, "#fe": false, "1 0 SSTORE 0 0 REVERT": false, "1 0 SSTORE 0 0 LOG0": true, "0x55 SELFDESTRUCT": true} {
		v := worldOf(party{me, assemble(text), 0})
		if p := execute(t, text, v, x, checkedOf(x, 77, nil)); p.Success != success || v.Slot(me, api.Word{}) != (api.Word{}) && !success {
			t.Errorf("%s: %v", text, p)
		}
	}
}

// TestExecuteTenth: of the gas that was asked for in vain a tenth is paid, rounded down.
func TestExecuteTenth(t *testing.T) {
	for vain := range uint64(45) {
		x := sponsored()
		x.CallGas, x.PostGas = vain/3, vain-vain/3
		w := worldOf(party{payer, fine, 0})
		if p := execute(t, "tenth", w, x, checkedOf(x, 1000, nil)); p.Gas != 1000+vain/10 {
			t.Errorf("%d in vain: %d", vain, p.Gas)
		}
		y := plain()
		y.CallData, y.CallGas = []byte{1}, 3+vain
		w = worldOf(party{me, assemble("1"), 0})
		if p := execute(t, "tenth", w, y, checkedOf(y, 1000, nil)); p.Gas != 1003+vain/10 || !p.Success {
			t.Errorf("%d in vain: %v", vain, p)
		}
	}
}

// TestExecuteCap: nobody pays more than the prefund; the payer has back the rest.
func TestExecuteCap(t *testing.T) {
	for _, x := range []api.UserOp{plain(), sponsored()} {
		who := me
		if x.HasPaymaster {
			who = payer
		}
		gas := userop.Gas(x)
		waste := (x.CallGas + x.PostGas) / 10
		for _, y := range []struct{ used, cost uint64 }{
			{0, 14 * waste}, {1, 14 * (waste + 1)}, {gas*20/14 - waste, 14 * (gas * 20 / 14)}, {gas*20/14 - waste + 1, 20 * gas}, {gas * 2, 20 * gas}, {1 << 62, 20 * gas},
		} {
			w := worldOf(party{who, fine, 3})
			p := execute(t, "cap", w, x, checkedOf(x, y.used, nil))
			if p.Cost != word.From(min(y.cost, 20*gas)) || p.Gas != y.used+waste || desk.Deposit(w, who) != word.From(3+20*gas-min(y.cost, 20*gas)) {
				t.Errorf("%d used: %v, %v is left", y.used, p, desk.Deposit(w, who))
			}
		}
	}
}

// TestExecutePrice: the fee, or the base fee and the tip.
func TestExecutePrice(t *testing.T) {
	for _, y := range []struct{ fee, tip, want uint64 }{{20, 3, 14}, {14, 3, 14}, {13, 3, 13}, {20, 0, 11}, {5, 5, 5}, {0, 0, 0}, {20, 20, 20}} {
		x := plain()
		x.MaxFee, x.MaxTip, x.CallGas = word.From(y.fee), word.From(y.tip), 0
		w := worldOf(party{me, fine, 0})
		if p := execute(t, "price", w, x, checkedOf(x, 100, nil)); p.Cost != word.From(100*y.want) {
			t.Errorf("%v: %v", y, p)
		}
	}
}

// TestExecutePost: what the paymaster is told behind the call, and how much gas it has.
func TestExecutePost(t *testing.T) {
	context := sample.Noise(37, 6)
	for _, y := range []struct {
		call    string // the sender's code; none: it is not called
		success bool
	}{{"", true}, {"1 0 SSTORE", true}, {"1 0 SSTORE 0 0 REVERT", false}, {"#fe", false}} {
		x := sponsored()
		x.PostGas = 1 << 20
		w := worldOf(party{me, assemble(y.call), 0}, party{payer, assemble(noting), 0})
		taken := uint64(0)
		if y.call != "" {
			x.CallData = []byte{1, 2}
			taken = uses(w.Copy(), self, me, x.CallData, x.CallGas)
		}
		c := checkedOf(x, 1234, context)
		v := w.Copy()
		p := execute(t, y.call, v, x, c)
		mode := uint64(0)
		if !y.success {
			mode = 1
		}
		data := userop.Post(mode, context, word.From(14*(1234+taken)), api.Word{14})
		want := noted{x.PostGas, word.Wide(self), word.Wide(beneficiary), api.Word{14}, api.Word{}, word.From(uint64(len(data))), keccak.Sum(data), word.Wide(payer)}
		if got := noteOf(v, payer); got != want || p.Success != y.success {
			t.Errorf("%s: %v, %v, want %v", y.call, p, got, want)
		}
		uses(w, self, me, x.CallData, x.CallGas) // which touches what it touches
		taken += uses(w, self, payer, data, x.PostGas)
		if p.Gas != 1234+taken+(x.CallGas+x.PostGas-taken)/10 {
			t.Errorf("%s: %d gas, %d taken", y.call, p.Gas, taken)
		}
	}
}

// TestExecuteUntold: whom nothing is told.
func TestExecuteUntold(t *testing.T) {
	for name, x := range map[string]struct {
		op      api.UserOp
		context []byte
		want    bool
	}{
		"a context":                   {sponsored(), []byte{0}, true},
		"no context":                  {sponsored(), nil, false},
		"no bytes":                    {sponsored(), []byte{}, false},
		"no paymaster, but context":   {plain(), []byte{1}, false},
		"no paymaster and no context": {plain(), nil, false},
	} {
		w := worldOf(party{me, fine, 0}, party{payer, assemble("1 0 SSTORE"), 0}, party{api.Address{}, assemble("1 0 SSTORE"), 0})
		p := execute(t, name, w, x.op, checkedOf(x.op, 5, x.context))
		if told := w.Slot(payer, api.Word{}) == (api.Word{1}); told != x.want || !p.Success || w.Slot(api.Address{}, api.Word{}) != (api.Word{}) {
			t.Errorf("%s: %v, %v", name, told, p)
		}
	}
}

// TestExecuteBack: what the paymaster does not agree to is taken back, with all of its own; but it is paid for.
func TestExecuteBack(t *testing.T) {
	for _, call := range []string{"1 0 SSTORE 0 0 LOG0 0x77 BALANCE", "1 0 SSTORE 0 0 REVERT", ""} {
		for _, post := range []string{"#fe", "0 0 REVERT", "1 0 SSTORE 0 0 LOG0 0 0 REVERT", "#5b600056", "0 0 0 0 9 CALLER GAS CALL #fe", "1 0 SSTORE 0 0 LOG0"} {
			x := sponsored()
			w := worldOf(party{me, assemble(call), 0}, party{payer, assemble(post), 100})
			w.Log(api.Log{Addr: other})
			w.Touch(other)
			w.Refund(9)
			before := w.Copy()
			if call != "" {
				x.CallData = []byte{1}
			}
			p := execute(t, call+", "+post, w, x, checkedOf(x, 50, []byte{1}))
			agrees := post == "1 0 SSTORE 0 0 LOG0"
			if p.Success != (agrees && call != "1 0 SSTORE 0 0 REVERT") || p.Gas < 50 {
				t.Errorf("%s, %s: %v", call, post, p)
			}
			rest, _ := word.Sub(userop.Prefund(x), p.Cost)
			sum, _ := word.Add(rest, api.Word{100})
			if !agrees {
				before.SetSlot(self, depositOf(payer), sum)
				before.Log(logOf(x, checkedOf(x, 50, nil), false, p.Cost, p.Gas))
				if !sample.SameWorlds(w, before, everyone()) {
					t.Errorf("%s, %s: not all is as before: %v", call, post, w.Entries())
				}
			}
		}
	}
}

// depositOf is the slot of a deposit.
func depositOf(a api.Address) api.Word { return word.Shl(api.Word{96}, word.Wide(a)) }

// TestExecuteArguments: neither the operation nor what its validation came to is changed, or kept.
func TestExecuteArguments(t *testing.T) {
	x := sponsored()
	data, context := sample.Noise(90, 1), sample.Noise(90, 2)
	x.CallData = data[:40]
	w := worldOf(party{me, assemble("32 0 0 CALLDATACOPY 32 0 LOG0"), 0}, party{payer, assemble("200 0 0 CALLDATACOPY 200 0 LOG0"), 0})
	m := model{w.Copy(), block(), beneficiary}
	want := m.execute(x, checkedOf(x, 9, context[:33]))
	p := entry.Execute(w, block(), beneficiary, x, checkedOf(x, 9, context[:33]))
	if !bytes.Equal(data, sample.Noise(90, 1)) || !bytes.Equal(context, sample.Noise(90, 2)) {
		t.Error("an argument was changed")
	}
	clear(data)
	clear(context)
	if p != want || !sample.SameWorlds(w, m.w, everyone()) || len(w.Logs()) != 3 {
		t.Errorf("%v, want %v, %v", p, want, w.Logs())
	}
}
