package entry_test

import (
	"slices"
	"testing"

	"quaestor/abi"
	"quaestor/api"
	"quaestor/desk"
	"quaestor/entry"
	"quaestor/sample"
	"quaestor/store"
	"quaestor/userop"
	"quaestor/vm"
	"quaestor/word"
)

// Drawn worlds have four accounts, of which some know each other, two factories and three paymasters.
var (
	accounts   = []api.Address{at(0xa1), at(0xa2), at(0xa3), at(0xa4)}
	factories  = []api.Address{at(0xfa), at(0xfb)}
	paymasters = []api.Address{at(0xba), at(0xbb), at(0xa1)}
)

// crowd are all who may be touched by drawn operations.
func crowd() []api.Address {
	l := append(everyone(), slices.Concat(accounts, factories, paymasters)...)
	for _, f := range factories {
		for nonce := range uint64(6) {
			l = append(l, vm.Made(f, nonce))
		}
	}
	return l
}

// oneOf is one of some texts.
func oneOf(d *sample.Dice, l ...string) string { return l[d.Below(len(l))] }

// anyone is one who takes part, as assemble reads it.
func anyone(d *sample.Dice) string {
	l := crowd()
	a := l[d.Below(len(l))]
	if a == beneficiary { // who is paid by nobody else
		a = me
	}
	return digits(a[:])
}

// visiting is the text of a call of the entry point.
func visiting(d *sample.Dice) string {
	name := oneOf(d, "depositTo(address)", "balanceOf(address)", "incrementNonce(uint192)", "addStake(uint32)", "unlockStake()", "withdrawTo(address,uint256)", "withdrawTo(address,uint256)")
	data := abi.Selector(name)
	first, value := word.From(uint64(d.Below(3))), "0"
	switch name[0] {
	case 'd', 'b', 'w':
		l := crowd()
		first = word.Wide(l[d.Below(len(l))])
		if first == word.Wide(beneficiary) {
			first = word.Wide(me)
		}
	}
	if name[0] == 'd' || name[0] == 'a' {
		value = number(uint64(d.Below(50)))
	}
	amount := []uint64{0, 1, 40, 1 << 21, 1 << 39}[d.Below(5)]
	data = slices.Concat(data, word.Bytes(first), word.Bytes(word.From(amount)))
	return writing(data) + "0 0 68 0 " + value + " " + digits(self[:]) + " GAS CALL POP "
}

// doing is the text of something that code may do.
func doing(d *sample.Dice) string {
	text := ""
	for range d.Below(4) {
		key := number(uint64(d.Below(4)))
		switch d.Below(9) {
		case 0, 1:
			text += "GAS 7 AND " + key + " SSTORE "
		case 2:
			text += key + " SLOAD 1 ADD " + key + " SSTORE "
		case 3:
			text += "0 " + key + " SSTORE "
		case 4:
			text += "5 0 LOG0 "
		case 5:
			text += "0 0 0 0 " + number(uint64(d.Below(20))) + " " + anyone(d) + " 30000 CALL POP "
		case 6, 7:
			text += visiting(d)
		case 8:
			text += anyone(d) + " BALANCE 0 MSTORE "
		}
	}
	return text
}

// times is a word of what is valid in the block at 7, or nearly.
func times(d *sample.Dice) api.Word {
	if d.Below(4) > 0 {
		return api.Word{}
	}
	var a api.Word
	if d.Below(3) == 0 {
		a[0] = 1
	}
	a[2] = uint64(d.Below(3)) * uint64(6+d.Below(2)) << 32
	a[3] = uint64(6+d.Below(3)) << 16
	return a
}

// failing is how code may fail, or answer nothing.
func failing(d *sample.Dice) string {
	return oneOf(d, "#fe", "0 0 REVERT", "64 0 REVERT", "STOP", "31 0 RETURN", "#5b600056")
}

// accountCode is the code of a sender.
func accountCode(d *sample.Dice) []byte {
	validates := doing(d)
	if d.Below(3) > 0 {
		validates += "0 0 0 0 68 CALLDATALOAD CALLER GAS CALL POP "
	}
	if d.Below(9) == 0 {
		validates += failing(d)
	} else {
		validates += ending(word.Bytes(times(d)), "RETURN")
	}
	acts := doing(d) + oneOf(d, "STOP", "STOP", "0 0 REVERT", "#fe", "0x55 SELFDESTRUCT", "32 0 RETURN")
	return either(asked, assemble(validates), assemble(acts))
}

// paymasterCode is the code of one who pays.
func paymasterCode(d *sample.Dice) []byte {
	says := doing(d)
	if d.Below(7) == 0 {
		says += failing(d)
	} else {
		says += ending(sponsoring(sample.Noise(d.Below(3)*d.Below(20), d.Number()), times(d)), "RETURN")
	}
	posts := doing(d) + oneOf(d, "STOP", "STOP", "0 0 REVERT", "#fe", "36 CALLDATALOAD 0 SSTORE", "4 CALLDATALOAD 5 SSTORE")
	return either(sponsors, assemble(says), assemble(posts))
}

// factoryCode is the code of one who makes accounts.
func factoryCode(d *sample.Dice) []byte {
	if d.Below(8) == 0 {
		return assemble(doing(d) + failing(d))
	}
	code := accountCode(d)
	if d.Below(12) == 0 {
		code = nil
	}
	return factoryOf(code, doing(d), oneOf(d, "0 MSTORE 32 0 RETURN", "0 MSTORE 32 0 RETURN", "0 MSTORE 32 0 RETURN", "0 MSTORE 70 0 RETURN", "0 MSTORE 32 1 RETURN", "0 MSTORE "+failing(d)))
}

// drawnWorld has code at all who take part, and deposits, of which some suffice.
func drawnWorld(d *sample.Dice) *store.World {
	var l []party
	deposit := func() uint64 {
		return []uint64{0, uint64(d.Below(1 << 20)), uint64(d.Below(1 << 24)), rich, rich}[d.Below(5)]
	}
	for _, a := range paymasters {
		l = append(l, party{a, paymasterCode(d), deposit()})
	}
	for _, a := range accounts {
		if a != paymasters[2] || d.Below(2) == 0 {
			l = append(l, party{a, accountCode(d), deposit()})
		}
	}
	for _, a := range factories {
		l = append(l, party{a, factoryCode(d), 0})
		for nonce := range uint64(2) {
			l = append(l, party{vm.Made(a, nonce), nil, deposit()})
		}
	}
	if d.Below(3) == 0 {
		l[d.Below(len(l))].code = nil
	}
	w := worldOf(l...)
	for _, p := range l {
		if d.Below(3) > 0 {
			w.SetBalance(p.addr, word.From(1<<36))
		}
	}
	if d.Below(4) > 0 { // more than is deposited
		w.SetBalance(self, word.From(1<<50))
	}
	if d.Below(3) == 0 {
		w.Begin()
	}
	return w
}

// turn draws operations for a World, one behind the other: it knows which nonces it has given, and how many accounts the factories have made.
type turn struct {
	*sample.Dice
	nonces map[api.Address]api.Word
	made   map[api.Address]uint64
}

func newTurn(d *sample.Dice) *turn {
	return &turn{d, map[api.Address]api.Word{}, map[api.Address]uint64{}}
}

// ample is an amount of gas that suffices more often.
func (u *turn) ample() uint64 { return max(u.gas(), u.gas(), u.gas()) }

// gas is one of a few amounts, most of them great enough.
func (u *turn) gas() uint64 {
	return []uint64{0, 300, uint64(u.Below(60000)), 100000, 250000, 250000, 1 << 20}[u.Below(7)]
}

// op is an operation that may go well.
func (u *turn) op() api.UserOp {
	x := api.UserOp{Sender: accounts[u.Below(len(accounts))], CallGas: u.gas(), VerifyGas: u.ample(), PreGas: uint64(u.Below(5000)), Sig: sample.Noise(u.Below(9), 1)}
	x.MaxFee = word.From(uint64(u.Below(30)))
	x.MaxTip = word.From(uint64(u.Below(int(x.MaxFee[0]) + 1)))
	if u.Below(4) > 0 {
		x.CallData = sample.Noise(1+u.Below(40), u.Number())
	}
	if u.Below(4) == 0 {
		x.HasFactory, x.Factory, x.FactoryData = true, factories[u.Below(len(factories))], sample.Noise(u.Below(9), 2)
		x.Sender = vm.Made(x.Factory, u.made[x.Factory])
		u.made[x.Factory]++
		x.VerifyGas = max(x.VerifyGas, uint64(u.Below(1<<20)))
	}
	if u.Below(3) == 0 {
		x.HasPaymaster, x.Paymaster, x.PayVerifyGas, x.PostGas = true, paymasters[u.Below(len(paymasters))], u.ample(), u.gas()
		x.PayData = sample.Noise(u.Below(9), 3)
	}
	x.Nonce = u.nonces[x.Sender]
	u.nonces[x.Sender] = word.From(x.Nonce[0] + 1)
	u.spoil(&x)
	return x
}

// spoil lets one of many be wrong.
func (u *turn) spoil(x *api.UserOp) {
	switch u.Below(60) {
	case 0:
		x.Nonce = u.Word()
	case 1:
		x.Nonce = api.Word{0, uint64(u.Below(4))}
	case 2:
		x.MaxFee = api.Word{0, 1 << 55}
	case 3:
		x.VerifyGas = 1<<20 + 1
	case 4:
		x.Factory = at(0xfa)
	case 5:
		x.HasFactory, x.HasPaymaster = !x.HasFactory, true
	case 6:
		x.Sender = at(0x99)
	case 7:
		x.Sender = factories[0]
	}
}

// TestDrawnVerify: one drawn operation behind the other, by the chapter's words: numbers, results, events, and all of the World.
func TestDrawnVerify(t *testing.T) {
	d := sample.Dice(161)
	seen := map[api.Errno]int{}
	roles := map[int]int{}
	for range 1200 {
		w, u := drawnWorld(&d), newTurn(&d)
		m := model{w.Copy(), block(), beneficiary}
		for range 4 {
			x := u.op()
			want, wantEvents, wantErrno := m.verify(x)
			c, l, errno := entry.Verify(w, block(), beneficiary, x)
			if errno != wantErrno || !sameChecked(c, want) {
				t.Fatalf("%v: %v, %v, want %v, %v", x, c, errno, want, wantErrno)
			}
			for role := range l {
				if !sample.SameEvents(l[role], wantEvents[role]) {
					t.Fatalf("%v: the events of role %d are other ones", x, role)
				}
				if len(l[role]) > 0 {
					roles[role]++
				}
			}
			if !sample.SameWorlds(w, m.w, crowd()) {
				t.Fatalf("%v: %v, and the World is %v, want %v", x, errno, w.Entries(), m.w.Entries())
			}
			seen[errno]++
		}
	}
	all := []api.Errno{
		api.OK, api.ErrOpForm, api.ErrEntryCreate, api.ErrEntrySender, api.ErrEntryEmpty, api.ErrEntryThere, api.ErrEntryNone, api.ErrEntryFunds,
		api.ErrEntryRevert, api.ErrEntryNonce, api.ErrEntryDeposit, api.ErrEntryPayer, api.ErrEntryPayNone,
	}
	for _, e := range all {
		if seen[e] < 10 {
			t.Errorf("%v was seen %d times only", e, seen[e])
		}
	}
	if len(seen) != len(all) || len(roles) != 3 || roles[0] > 0 {
		t.Errorf("%v, %v", seen, roles)
	}
}

// TestDrawnHandle: bundles of drawn operations, and what holds of all of them.
func TestDrawnHandle(t *testing.T) {
	d := sample.Dice(162)
	seen := map[api.Errno]int{}
	ends := map[bool]int{}
	for range 3500 {
		w, u := drawnWorld(&d), newTurn(&d)
		var l []api.UserOp
		for range 1 + d.Below(1+d.Below(5)) {
			l = append(l, u.op())
		}
		covered := covers(w)
		before := w.Copy()
		m := model{w.Copy(), block(), beneficiary}
		want, wantSum, wantAt, wantErrno := m.handle(l)
		paid, sum, at, errno := entry.Handle(w, block(), l, beneficiary)
		if !slices.Equal(paid, want) || sum != wantSum || at != wantAt || errno != wantErrno {
			t.Fatalf("%v: %v, %v, %d, %v, want %v, %v, %d, %v", l, paid, sum, at, errno, want, wantSum, wantAt, wantErrno)
		}
		if !sample.SameWorlds(w, m.w, crowd()) {
			t.Fatalf("%v: %v, and the World is %v, want %v", l, errno, w.Entries(), m.w.Entries())
		}
		seen[errno]++
		holds(t, before, w, l, paid, sum, covered)
		for _, p := range paid {
			ends[p.Success]++
		}
	}
	for _, e := range []api.Errno{api.OK, api.ErrEntrySig, api.ErrEntryTime, api.ErrEntryPaySig, api.ErrEntryPayTime, api.ErrEntryPayer, api.ErrEntryNonce} {
		if seen[e] < 8 {
			t.Errorf("%v was seen %d times only", e, seen[e])
		}
	}
	if seen[api.OK] < 400 || ends[true] < 200 || ends[false] < 200 {
		t.Errorf("%v, %v", seen, ends)
	}
}

// holds checks the chapter's properties, and those of the whole that speak of it.
func holds(t *testing.T, before, after *store.World, l []api.UserOp, paid []api.Paid, sum api.Word, covered bool) {
	t.Helper()
	had, _ := before.Total()
	has, _ := after.Total()
	if word.Cmp(has, had) > 0 {
		t.Errorf("%v: the sum of all balances was %v, and is %v", l, had, has)
	}
	if covered && !covers(after) {
		t.Errorf("%v: the entry point does not cover all", l)
	}
	if covered && len(paid) > 0 {
		if got, _ := word.Sub(after.Balance(beneficiary), before.Balance(beneficiary)); got != sum {
			t.Errorf("%v: the beneficiary has %v, want %v", l, got, sum)
		}
	}
	for i, p := range paid {
		if word.Cmp(p.Cost, userop.Prefund(l[i])) > 0 || p.Hash != userop.Hash(l[i], api.Word{12}) {
			t.Errorf("%v: %v", l[i], p)
		}
		if _, _, _, errno := entry.Handle(after.Copy(), block(), l[i:i+1], beneficiary); errno == api.OK {
			t.Errorf("%v is done twice", l[i])
		}
	}
}

// TestDrawnPayers: who pays for itself, and does nothing else with its deposit, pays what it costs, and no more.
func TestDrawnPayers(t *testing.T) {
	d := sample.Dice(163)
	for range 300 {
		w := worldOf(party{me, fine, rich}, party{other, assemble("0 0 REVERT"), rich}, party{payer, answering(sponsoring([]byte{1}, api.Word{})), rich})
		u := newTurn(&d)
		costs := map[api.Address]uint64{}
		var l []api.UserOp
		for i := range uint64(5) {
			x := plain()
			if d.Below(2) == 0 {
				x = sponsored()
			}
			x.Nonce, x.CallGas, x.PreGas, x.MaxFee, x.MaxTip = word.From(i), u.gas(), u.gas(), word.From(uint64(d.Below(30))), api.Word{}
			l = append(l, x)
		}
		paid, _, _, errno := handle(t, "payers", w, l)
		if errno != api.OK {
			t.Fatal(errno)
		}
		for i, p := range paid {
			who := me
			if l[i].HasPaymaster {
				who = payer
			}
			costs[who] += p.Cost[0]
		}
		for _, a := range []api.Address{me, payer} {
			if desk.Deposit(w, a) != word.From(rich-costs[a]) {
				t.Errorf("%x: %v", a, desk.Deposit(w, a))
			}
		}
	}
}

// TestAnyOperation: no operation makes it panic, whatever it is, nor does any result that it is said to have come to.
func TestAnyOperation(t *testing.T) {
	d := sample.Dice(164)
	any := func() uint64 { return []uint64{0, 1, 1 << 20, 1 << 40, 1<<40 + 1, most, d.Number()}[d.Below(7)] }
	for range 4000 {
		w := drawnWorld(&d)
		x := newTurn(&d).op()
		x.CallGas, x.VerifyGas, x.PreGas, x.PayVerifyGas, x.PostGas = any()%(1<<60), any(), any(), any(), any()%(1<<41)
		if x.CallGas > 1<<40 || d.Below(2) == 0 { // else it runs for very long
			x.CallGas = min(x.CallGas, 1<<16)
		}
		x.PostGas = min(x.PostGas, 1<<16)
		x.MaxFee, x.MaxTip = d.Word(), d.Word()
		b := api.Block{Number: any(), Time: any(), BaseFee: d.Word(), Chain: d.Word()}
		entry.Execute(w, b, beneficiary, x, api.Checked{Hash: d.Word(), Prefund: d.Word(), Used: any(), Context: sample.Noise(d.Below(40), 4)})
		if _, _, errno := entry.Verify(w, b, beneficiary, x); errno == api.OK && userop.Check(x) != api.OK {
			t.Errorf("%v is verified", x)
		}
	}
}
