package entry_test

import (
	"bytes"
	"slices"
	"testing"

	"quaestor/abi"
	"quaestor/api"
	"quaestor/desk"
	"quaestor/entry"
	"quaestor/sample"
	"quaestor/store"
	"quaestor/userop"
	"quaestor/word"
)

// handle handles on a World, by the chapter's words on a Copy, too. What both come to, and leave behind, has to be the same.
func handle(t *testing.T, name string, w *store.World, l []api.UserOp) ([]api.Paid, api.Word, int, api.Errno) {
	t.Helper()
	m := model{w.Copy(), block(), beneficiary}
	want, wantSum, wantAt, wantErrno := m.handle(l)
	paid, sum, at, errno := entry.Handle(w, block(), l, beneficiary)
	if !slices.Equal(paid, want) || sum != wantSum || at != wantAt || errno != wantErrno {
		t.Errorf("%s: %v, %v, %d, %v, want %v, %v, %d, %v", name, paid, sum, at, errno, want, wantSum, wantAt, wantErrno)
	}
	if !sample.SameWorlds(w, m.w, everyone()) {
		t.Errorf("%s: the World is not as it should be: %v, want %v", name, w.Entries(), m.w.Entries())
	}
	return paid, sum, at, errno
}

// inOrder are operations of me, with its nonces.
func inOrder(n int) []api.UserOp {
	var l []api.UserOp
	for i := range n {
		x := plain()
		x.Nonce = api.Word{uint64(i)}
		l = append(l, x)
	}
	return l
}

// TestHandleCount: from one to sixteen.
func TestHandleCount(t *testing.T) {
	for n := range 20 {
		w := worldOf(party{me, assemble("32 0 RETURN"), rich}) // takes 9 gas
		w.Touch(at(0x55))
		w.Log(api.Log{Addr: other})
		before := w.Copy()
		paid, sum, at, errno := handle(t, number(uint64(n)), w, inOrder(n))
		if n == 0 || n > 16 {
			if errno != api.ErrArg || len(paid) > 0 || sum != (api.Word{}) || at != 0 || !sample.SameWorlds(w, before, everyone()) {
				t.Errorf("%d operations: %v, %v, %d, %v", n, paid, sum, at, errno)
			}
			continue
		}
		if errno != api.OK || len(paid) != n || at != 0 || len(w.Logs()) != n || desk.Nonce(w, me, api.Word{}) != word.From(uint64(n)) {
			t.Errorf("%d operations: %v, %d, %v", n, paid, at, errno)
		}
		if sum != word.From(uint64(n)*14*(5000+9+30000)) || w.Balance(beneficiary) != sum || w.Balance(self) != word.From(rich-sum[0]) || desk.Deposit(w, me) != word.From(rich-sum[0]) {
			t.Errorf("%d operations: %v", n, sum)
		}
	}
}

// TestHandleBegins: a transaction begins, also where one fails, and does not end.
func TestHandleBegins(t *testing.T) {
	for _, code := range []string{"32 0 RETURN", "#fe"} {
		w := worldOf(party{me, assemble(code), rich})
		w.SetSlot(me, api.Word{5}, api.Word{6})
		w.Touch(at(0x55))
		w.Log(api.Log{Addr: other})
		w.Refund(7)
		w.Kill(other)
		_, _, _, errno := handle(t, code, w, inOrder(1))
		want := 1
		if errno != api.OK {
			want = 0
		}
		if len(w.Logs()) != want || w.Refunds() != 0 || w.Touch(at(0x55)) || w.Original(me, api.Word{5}) != (api.Word{6}) {
			t.Errorf("%s: %v, %v", code, errno, w.Logs())
		}
		if d := depositOf(me); w.Original(self, d) != (api.Word{rich}) {
			t.Errorf("%s: the transaction has ended", code)
		}
	}
}

// TestHandleErrors: the first that fails, whatever was done by the ones ahead of it, is told; all is as before.
func TestHandleErrors(t *testing.T) {
	code := either(asked, assemble("0x77 BALANCE 1 0 SLOAD ADD 0 SSTORE 0 0 LOG0 "+ending(make([]byte, 32), "RETURN")), assemble("1 1 SSTORE"))
	for name, y := range map[string]struct {
		bad  func(*api.UserOp)
		want api.Errno
	}{
		"the form":        {func(x *api.UserOp) { x.MaxTip = api.Word{21} }, api.ErrOpForm},
		"the nonce":       {func(x *api.UserOp) { x.Nonce[0] += 1 }, api.ErrEntryNonce},
		"the funds":       {func(x *api.UserOp) { x.MaxFee = api.Word{1 << 50} }, api.ErrEntryFunds},
		"the sender":      {func(x *api.UserOp) { x.Sender = at(0x99) }, api.ErrEntryNone},
		"the signature":   {func(x *api.UserOp) { x.Sender = at(0x51) }, api.ErrEntrySig},
		"the time":        {func(x *api.UserOp) { x.Sender = at(0x52) }, api.ErrEntryTime},
		"another time":    {func(x *api.UserOp) { x.Sender = at(0x53) }, api.ErrEntryTime},
		"its signature":   {func(x *api.UserOp) { x.Paymaster = at(0x61) }, api.ErrEntryPaySig},
		"its time":        {func(x *api.UserOp) { x.Paymaster = at(0x62) }, api.ErrEntryPayTime},
		"its deposit":     {func(x *api.UserOp) { x.Paymaster = at(0x63) }, api.ErrEntryDeposit},
		"what it answers": {func(x *api.UserOp) { x.Paymaster = me }, api.ErrEntryPayer},
	} {
		for n := range 5 {
			for k := range n + 1 {
				w := worldOf(
					party{me, code, rich},
					party{at(0x51), telling(api.Word{1}), rich},
					party{at(0x52), telling(api.Word{0, 0, 6 << 32}), rich}, // until 6
					party{at(0x53), telling(api.Word{0, 0, 0, 8 << 16}), rich},
					party{at(0x61), answering(sponsoring([]byte{1}, api.Word{1})), rich},
					party{at(0x62), answering(sponsoring([]byte{1}, api.Word{0, 0, 0, 8 << 16})), rich},
					party{at(0x63), answering(sponsoring([]byte{1}, api.Word{})), 5},
				)
				l := inOrder(n + 1)
				y.bad(&l[k])
				l[k].HasPaymaster = l[k].Paymaster != api.Address{}
				if l[k].HasPaymaster {
					l[k].PayVerifyGas = 100000
				} else if l[k].Sender != me {
					l[k].Nonce = api.Word{}
				}
				before := w.Copy()
				before.Begin()
				paid, sum, at, errno := handle(t, name, w, l)
				if errno != y.want || at != k || len(paid) > 0 || sum != (api.Word{}) || !sample.SameWorlds(w, before, everyone()) {
					t.Errorf("%s, operation %d of %d: %v, %v, %d, %v, %v", name, k, n+1, paid, sum, at, errno, w.Entries())
				}
			}
		}
	}
}

// TestHandleTimes: at the edges of what is valid, the time is the block's.
func TestHandleTimes(t *testing.T) {
	for _, y := range []struct {
		word api.Word
		want api.Errno
	}{{api.Word{0, 0, 7 << 32}, api.OK}, {api.Word{0, 0, 6 << 32}, api.ErrEntryTime}, {api.Word{0, 0, 0, 7 << 16}, api.OK}, {api.Word{0, 0, 0, 8 << 16}, api.ErrEntryTime}} {
		w := worldOf(party{me, telling(y.word), rich})
		if _, _, _, errno := handle(t, "time", w, inOrder(1)); errno != y.want {
			t.Errorf("%v: %v, want %v", y.word, errno, y.want)
		}
	}
}

// TestHandleOrder: all are verified ahead of the first that is executed.
func TestHandleOrder(t *testing.T) {
	// what is noted is the number of what was done before, and 1 more; executions count by hundreds
	verified := assemble("0 SLOAD 1 ADD DUP1 0 SSTORE DUP1 SSTORE " + ending(make([]byte, 32), "RETURN"))
	executed := assemble("0 SLOAD 100 ADD DUP1 0 SSTORE DUP1 SSTORE")
	w := worldOf(party{me, either(asked, verified, executed), rich})
	l := inOrder(3)
	for i := range l {
		l[i].CallData = []byte{byte(i)}
	}
	paid, _, _, errno := handle(t, "order", w, l)
	if errno != api.OK || !paid[0].Success || !paid[1].Success || !paid[2].Success {
		t.Fatalf("%v, %v", paid, errno)
	}
	for _, n := range []uint64{1, 2, 3, 103, 203, 303} {
		if w.Slot(me, word.From(n)) != word.From(n) {
			t.Errorf("%d is not noted: %v", n, w.Entries())
		}
	}
}

// TestHandleAgain: what was done once is not done twice.
func TestHandleAgain(t *testing.T) {
	w := worldOf(party{me, fine, rich})
	l := inOrder(2)
	if _, _, _, errno := handle(t, "first", w, l); errno != api.OK {
		t.Error(errno)
	}
	for _, again := range [][]api.UserOp{l, l[:1], l[1:], {l[1], l[0]}} {
		if _, _, at, errno := handle(t, "again", w, again); errno != api.ErrEntryNonce || at != 0 {
			t.Errorf("%d, %v", at, errno)
		}
	}
	if _, _, at, errno := handle(t, "both", worldOf(party{me, fine, rich}), []api.UserOp{l[0], l[0]}); errno != api.ErrEntryNonce || at != 1 {
		t.Errorf("%d, %v", at, errno)
	}
}

// TestHandleShares: a paymaster that pays for many has to have all their prefunds at once.
func TestHandleShares(t *testing.T) {
	for _, y := range []struct {
		short uint64
		want  api.Errno
	}{{0, api.OK}, {1, api.ErrEntryDeposit}} {
		var l []api.UserOp
		var sum uint64
		for i, a := range []api.Address{me, other, me} {
			x := sponsored()
			x.Sender, x.Nonce, x.PreGas = a, api.Word{uint64(i / 2)}, uint64(i)
			l = append(l, x)
			sum += prefund(x)
		}
		w := worldOf(party{me, fine, 0}, party{other, fine, 0}, party{payer, answering(sponsoring(nil, api.Word{})), sum - y.short})
		paid, all, at, errno := handle(t, "shares", w, l)
		if errno != y.want || errno != api.OK && at != 2 {
			t.Errorf("%d too little: %v, %d", y.short, errno, at)
		}
		if errno == api.OK && (len(paid) != 3 || desk.Deposit(w, payer) != word.From(sum-all[0]) || w.Balance(beneficiary) != all) {
			t.Errorf("%v, %v", paid, all)
		}
	}
}

// TestHandleWithdrawn: what is paid ahead can't be withdrawn by what is executed.
func TestHandleWithdrawn(t *testing.T) {
	whole := prefund(plain())
	take := func(n uint64) []byte {
		call := slices.Concat(abi.Selector("withdrawTo(address,uint256)"), word.Bytes(word.Wide(other)), word.Bytes(word.From(n)))
		return either(asked, fine, assemble(writing(call)+"0 0 68 0 0 CALLER GAS CALL 1 SSTORE"))
	}
	for _, y := range []struct {
		n  uint64
		is uint64
	}{{500, 1}, {501, 0}, {whole, 0}} {
		w := worldOf(party{me, take(y.n), whole + 500}, party{other, nil, 77})
		x := plain()
		x.CallData = []byte{1}
		paid, sum, _, errno := handle(t, "withdrawn", w, []api.UserOp{x})
		if errno != api.OK || !paid[0].Success || w.Slot(me, api.Word{1}) != word.From(y.is) || w.Balance(other) != word.From(100+y.n*y.is) || !covers(w) {
			t.Errorf("%d: %v, %v, %v", y.n, paid, errno, w.Entries())
		}
		if desk.Deposit(w, me) != word.From(whole+500-y.n*y.is-sum[0]) {
			t.Errorf("%d: %v is left", y.n, desk.Deposit(w, me))
		}
	}
}

// TestHandleUncovered: where the entry point has not so much, the beneficiary has nothing.
func TestHandleUncovered(t *testing.T) {
	w := worldOf(party{me, fine, rich})
	w.SetBalance(self, api.Word{100})
	if _, sum, _, errno := handle(t, "uncovered", w, inOrder(1)); errno != api.OK || sum == (api.Word{}) || w.Balance(beneficiary) != (api.Word{}) || w.Balance(self) != (api.Word{100}) {
		t.Errorf("%v, %v", sum, errno)
	}
}

// TestHandleOrigin: the beneficiary is the origin of all calls.
func TestHandleOrigin(t *testing.T) {
	code := assemble("ORIGIN 0 SLOAD 1 ADD DUP1 0 SSTORE SSTORE " + ending(sponsoring([]byte{1}, api.Word{}), "RETURN"))
	x := sponsored()
	x.CallData = []byte{1}
	sender := assemble("ORIGIN 0 SLOAD 1 ADD DUP1 0 SSTORE SSTORE " + ending(make([]byte, 32), "RETURN"))
	w := worldOf(party{me, sender, 0}, party{payer, code, rich})
	if paid, _, _, errno := handle(t, "origin", w, []api.UserOp{x}); errno != api.OK || !paid[0].Success {
		t.Errorf("%v, %v", paid, errno)
	}
	for _, a := range []api.Address{me, payer} {
		for _, n := range []uint64{1, 2} {
			if w.Slot(a, word.From(n)) != word.Wide(beneficiary) {
				t.Errorf("%x: call %d has the origin %v", a, n, w.Slot(a, word.From(n)))
			}
		}
	}
}

// TestHandleAnyone: whoever the beneficiary is.
func TestHandleAnyone(t *testing.T) {
	for _, a := range []api.Address{me, payer, self, entry.Maker(), {}, at(2), at(0xc0)} {
		w := worldOf(party{me, fine, rich})
		before := w.Balance(a)
		m := model{w.Copy(), block(), a}
		want, _, _, _ := m.handle(inOrder(2))
		paid, sum, _, errno := entry.Handle(w, block(), inOrder(2), a)
		after, _ := word.Add(before, sum)
		if a == self {
			after = before
		}
		if errno != api.OK || !slices.Equal(paid, want) || w.Balance(a) != after || !sample.SameWorlds(w, m.w, everyone()) {
			t.Errorf("%x: %v, %v", a, sum, errno)
		}
	}
}

// TestHandleArguments: a list is neither changed nor kept, nor is what stands behind it read.
func TestHandleArguments(t *testing.T) {
	l := inOrder(4)
	for i := range l {
		l[i].CallData, l[i].Sig = bytes.Repeat([]byte{byte(i)}, 40), bytes.Repeat([]byte{7}, 3)
	}
	l[3].Nonce = api.Word{9}
	w := worldOf(party{me, fine, rich})
	m := model{w.Copy(), block(), beneficiary}
	want, _, _, _ := m.handle(l[:3])
	paid, _, _, errno := entry.Handle(w, block(), l[:3], beneficiary)
	for i := range l {
		if userop.Hash(l[i], api.Word{12}) != paidHash(want, i) && i < 3 || !bytes.Equal(l[i].Sig, []byte{7, 7, 7}) {
			t.Errorf("operation %d was changed", i)
		}
		clear(l[i].CallData)
	}
	if errno != api.OK || !slices.Equal(paid, want) || len(paid) != 3 || !sample.SameWorlds(w, m.w, everyone()) {
		t.Errorf("%v, %v, want %v", paid, errno, want)
	}
}

// paidHash is the hash of one that was paid, if there is one.
func paidHash(l []api.Paid, i int) api.Word {
	if i < len(l) {
		return l[i].Hash
	}
	return api.Word{}
}
