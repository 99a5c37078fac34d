package entry_test

import (
	"bytes"
	"slices"
	"testing"

	"quaestor/api"
	"quaestor/desk"
	"quaestor/entry"
	"quaestor/keccak"
	"quaestor/sample"
	"quaestor/store"
	"quaestor/userop"
	"quaestor/vm"
	"quaestor/word"
)

// verify verifies on a World, by the chapter's words on a Copy, too. What both come to, and leave behind, has to be the same.
func verify(t *testing.T, name string, w *store.World, x api.UserOp) (api.Checked, [4][]api.Event, api.Errno) {
	t.Helper()
	m := model{w.Copy(), block(), beneficiary}
	want, wantEvents, wantErrno := m.verify(x)
	c, l, errno := entry.Verify(w, block(), beneficiary, x)
	if errno != wantErrno || !sameChecked(c, want) {
		t.Errorf("%s: %v, %v, want %v, %v", name, c, errno, want, wantErrno)
	}
	for role := range l {
		if !sample.SameEvents(l[role], wantEvents[role]) {
			t.Errorf("%s: the events of role %d are %v, want %v", name, role, l[role], wantEvents[role])
		}
	}
	if !sample.SameWorlds(w, m.w, everyone()) {
		t.Errorf("%s: the World is not as it should be: %v, want %v", name, w.Entries(), m.w.Entries())
	}
	return c, l, errno
}

// everyone are all accounts of these tests.
func everyone() []api.Address {
	l := []api.Address{me, other, factory, payer, beneficiary, self, at(0xc0), at(0x55), entry.Maker()}
	for nonce := range uint64(4) {
		l = append(l, vm.Made(factory, nonce))
	}
	return l
}

// TestVerifyForm: what Check rejects is not even begun.
func TestVerifyForm(t *testing.T) {
	for name, change := range map[string]func(*api.UserOp){
		"long data":            func(x *api.UserOp) { x.CallData = make([]byte, 4097) },
		"a long signature":     func(x *api.UserOp) { x.Sig = make([]byte, 4097) },
		"much gas":             func(x *api.UserOp) { x.CallGas = 1<<20 + 1 },
		"a great fee":          func(x *api.UserOp) { x.MaxFee = api.Word{0, 1 << 56} },
		"a tip above the fee":  func(x *api.UserOp) { x.MaxTip = api.Word{21} },
		"a stray factory":      func(x *api.UserOp) { x.HasFactory = false },
		"a stray paymaster":    func(x *api.UserOp) { x.HasPaymaster = false },
		"with no code as well": func(x *api.UserOp) { x.PreGas, x.Sender, x.HasFactory = 1<<20+1, at(0x99), false },
	} {
		x := full()
		change(&x)
		w := worldOf(party{factory, making(fine), 0}, party{payer, fine, rich})
		before := w.Copy()
		c, l, errno := verify(t, name, w, x)
		if errno != api.ErrOpForm || !sameChecked(c, api.Checked{}) || len(l[0])+len(l[1])+len(l[2])+len(l[3]) > 0 || !sample.SameWorlds(w, before, everyone()) {
			t.Errorf("%s: %v, %v, %v", name, c, l, errno)
		}
	}
}

// TestVerifySender: it is there, or the factory makes it, and not both.
func TestVerifySender(t *testing.T) {
	for name, x := range map[string]struct {
		op   api.UserOp
		code []byte
		want api.Errno
	}{
		"there":               {plain(), fine, api.OK},
		"not there":           {plain(), nil, api.ErrEntryNone},
		"there, and factory":  {deployed(), fine, api.ErrEntryThere},
		"made by the factory": {deployed(), nil, api.OK},
		"there, code 00":      {plain(), []byte{0}, api.ErrEntryRevert},
		"code 00 and factory": {deployed(), []byte{0}, api.ErrEntryThere},
	} {
		w := worldOf(party{factory, making(fine), 0}, party{x.op.Sender, x.code, rich})
		w.SetBalance(x.op.Sender, api.Word{8}) // that it exists does not count
		c, l, errno := verify(t, name, w, x.op)
		if errno != x.want || (len(l[2]) > 0) != (errno == api.OK && x.op.HasFactory) || c.Deployed != (errno == api.OK && x.op.HasFactory) {
			t.Errorf("%s: %v, %v, %d events", name, c, errno, len(l[2]))
		}
	}
}

// TestVerifyFactory: what the factory does, and answers.
func TestVerifyFactory(t *testing.T) {
	sender := deployed().Sender
	told, high := word.Bytes(word.Wide(sender)), word.Bytes(word.Wide(sender))
	high[11] = 1 // 2^160 more
	for name, x := range map[string]struct {
		code []byte
		want api.Errno
	}{
		"makes it":                   {making(fine), api.OK},
		"no code":                    {nil, api.ErrEntryCreate},
		"stops":                      {assemble("STOP"), api.ErrEntryCreate},
		"reverts with its address":   {assemble(ending(told, "REVERT")), api.ErrEntryCreate},
		"fails":                      {assemble("#fe"), api.ErrEntryCreate},
		"runs out":                   {assemble("#5b600056"), api.ErrEntryCreate},
		"31 bytes":                   {answering(told[:31]), api.ErrEntryCreate},
		"nothing made":               {answering(told), api.ErrEntryEmpty},
		"nothing made, 33 bytes":     {answering(append(slices.Clone(told), 0)), api.ErrEntryEmpty},
		"another address":            {telling(word.Wide(me)), api.ErrEntrySender},
		"no address":                 {telling(api.Word{}), api.ErrEntrySender},
		"an address with more bits":  {answering(high), api.ErrEntrySender},
		"the address too late":       {answering(append(make([]byte, 32), told...)), api.ErrEntrySender},
		"the address too early":      {answering(append(slices.Clone(sender[:]), make([]byte, 12)...)), api.ErrEntrySender},
		"made without code":          {making(nil), api.ErrEntryEmpty},
		"made second":                {factoryOf(fine, "0 0 0 CREATE POP ", "0 MSTORE 32 0 RETURN"), api.ErrEntrySender},
		"made, then reverted":        {factoryOf(fine, "", "0 MSTORE 32 0 REVERT"), api.ErrEntryCreate},
		"made, and failed":           {factoryOf(fine, "", "0 MSTORE #fe"), api.ErrEntryCreate},
		"made, and nothing answered": {factoryOf(fine, "", "STOP"), api.ErrEntryCreate},
		"made, 31 bytes":             {factoryOf(fine, "", "0 MSTORE 31 0 RETURN"), api.ErrEntryCreate},
		"made, 64 bytes":             {factoryOf(fine, "", "0 MSTORE 1 32 MSTORE 64 0 RETURN"), api.OK},
		"made, another one answered": {factoryOf(fine, "", "POP 5 0 MSTORE 32 0 RETURN"), api.ErrEntrySender},
	} {
		w := worldOf(party{factory, x.code, 0}, party{sender, nil, rich})
		_, l, errno := verify(t, name, w, deployed())
		if errno != x.want || errno != api.OK && len(l[1]) > 0 || (len(l[2]) > 0) != (x.code != nil) {
			t.Errorf("%s: %v, %d events of the sender", name, errno, len(l[1]))
		}
	}
}

// TestVerifyKnownFactories: the machine itself may be a factory, which makes nothing.
func TestVerifyKnownFactories(t *testing.T) {
	x := deployed()
	for _, a := range []api.Address{self, at(2), at(4), at(3), entry.Maker(), x.Sender} {
		x.Factory = a
		x.FactoryData = word.Bytes(word.Wide(x.Sender)) // which 4 answers
		want := api.ErrEntryCreate
		if a == at(2) {
			want = api.ErrEntrySender
		} else if a == at(4) {
			want = api.ErrEntryEmpty
		}
		if _, _, errno := verify(t, digits(a[:]), worldOf(party{x.Sender, nil, rich}), x); errno != want {
			t.Errorf("%x: %v, want %v", a, errno, want)
		}
	}
}

// noted are what code notes by noting.
type noted struct {
	gas                   uint64
	caller, origin, price api.Word
	value, size, hash     api.Word
	account               api.Word
}

func noteOf(w *store.World, a api.Address) noted {
	at := func(key uint64) api.Word { return w.Slot(a, word.From(key)) }
	return noted{at(0)[0] + 2, at(1), at(2), at(3), at(4), at(5), at(6), at(7)}
}

// TestVerifyCalls: who is called by whom, with which data and how much gas.
func TestVerifyCalls(t *testing.T) {
	x := full()
	told := assemble(noting + ending(make([]byte, 32), "RETURN"))
	x.VerifyGas, x.PayVerifyGas = 1<<20, 1<<20
	sponsor := assemble(noting + ending(sponsoring([]byte("some"), api.Word{}), "RETURN"))
	w := worldOf(party{factory, factoryOf(told, noting, "0 MSTORE 32 0 RETURN"), 0}, party{payer, sponsor, rich})
	v := w.Copy()
	c, _, errno := verify(t, "all", w, x)
	if errno != api.OK || c.Hash != userop.Hash(x, api.Word{12}) || c.Prefund != word.From(prefund(x)) || string(c.Context) != "some" || !c.Deployed {
		t.Fatalf("%v, %v", c, errno)
	}
	used := uses(v, entry.Maker(), factory, x.FactoryData, x.VerifyGas)
	want := x.PreGas + used
	for _, y := range []struct {
		who, caller api.Address
		data        []byte
		gas         uint64
	}{
		{factory, entry.Maker(), x.FactoryData, x.VerifyGas},
		{x.Sender, self, userop.Validate(x, c.Hash, api.Word{}), x.VerifyGas - used},
		{payer, self, userop.Sponsor(x, c.Hash, c.Prefund), x.PayVerifyGas},
	} {
		want := noted{y.gas, word.Wide(y.caller), word.Wide(beneficiary), api.Word{14}, api.Word{}, word.From(uint64(len(y.data))), keccak.Sum(y.data), word.Wide(y.who)}
		if got := noteOf(w, y.who); got != want {
			t.Errorf("%x: %v, want %v", y.who, got, want)
		}
	}
	want += uses(v, self, x.Sender, userop.Validate(x, c.Hash, api.Word{}), x.VerifyGas-used)
	want += uses(v, self, payer, userop.Sponsor(x, c.Hash, c.Prefund), x.PayVerifyGas)
	if c.Used != want || used == 0 {
		t.Errorf("%d gas, want %d", c.Used, want)
	}
}

// uses is the gas that a call uses.
func uses(w *store.World, from, to api.Address, data []byte, gas uint64) uint64 {
	r, _ := vm.Call(w, block(), beneficiary, api.Message{From: from, To: to, Data: data, Gas: gas, Price: api.Word{14}})
	return gas - r.Gas
}

// TestVerifyGas: the sender has what the factory has left, and the paymaster has its own; with a gas less than it needs each of them fails.
func TestVerifyGas(t *testing.T) {
	x := deployed()
	x.HasPaymaster, x.Paymaster, x.PayVerifyGas = true, payer, 500000
	slow := assemble(noting + ending(make([]byte, 32), "RETURN")) // so that the factory has enough in any case
	world := func() *store.World {
		return worldOf(party{factory, making(slow), 0}, party{payer, answering(sponsoring(nil, api.Word{})), rich})
	}
	w := world()
	hash := userop.Hash(x, api.Word{12})
	made := uses(w, entry.Maker(), factory, x.FactoryData, x.VerifyGas)
	asked := uses(w, self, x.Sender, userop.Validate(x, hash, api.Word{}), x.VerifyGas)
	paid := uses(w, self, payer, userop.Sponsor(x, hash, userop.Prefund(x)), x.PayVerifyGas)
	if made == 0 || asked == 0 || paid == 0 {
		t.Fatalf("%d, %d, %d", made, asked, paid)
	}
	for _, y := range []struct {
		verify, pay uint64
		want        api.Errno
	}{
		{made + asked, paid, api.OK}, {made + asked - 1, paid, api.ErrEntryRevert}, {made + asked, paid - 1, api.ErrEntryPayer}, {made + asked - 1, paid - 1, api.ErrEntryRevert},
		{made + asked/2, paid, api.ErrEntryRevert}, {0, paid, api.ErrEntryCreate}, {made + asked, 0, api.ErrEntryPayer}, {1 << 20, 1 << 20, api.OK},
	} {
		x.VerifyGas, x.PayVerifyGas = y.verify, y.pay
		c, _, errno := verify(t, "gas", world(), x)
		if errno != y.want || errno == api.OK && c.Used != x.PreGas+made+asked+paid {
			t.Errorf("%d and %d gas: %v, %v, want %v", y.verify, y.pay, c.Used, errno, y.want)
		}
	}
}

// TestVerifyStarvedFactory: gas that the factory needs to put the code down.
func TestVerifyStarvedFactory(t *testing.T) {
	world := func() *store.World {
		return worldOf(party{factory, making(fine), 0}, party{deployed().Sender, nil, rich})
	}
	seen := map[api.Errno]int{}
	for gas := uint64(0); gas < 60000; gas += 97 {
		x := deployed()
		x.VerifyGas = gas
		_, _, errno := verify(t, number(gas), world(), x)
		seen[errno]++
	}
	if len(seen) < 3 || seen[api.OK] == 0 || seen[api.ErrEntryCreate] == 0 {
		t.Errorf("%v", seen)
	}
}

// TestVerifyMissing: what the sender is told that it has to deposit, and what it deposits.
func TestVerifyMissing(t *testing.T) {
	whole := prefund(plain())
	for _, deposit := range []uint64{0, 1, whole - 1, whole, whole + 1, rich} {
		for _, pays := range []string{"", "0 0 0 0 68 CALLDATALOAD CALLER GAS CALL POP ", "0 0 0 0 1 68 CALLDATALOAD SUB CALLER GAS CALL POP ", "0 0 0 0 68 CALLDATALOAD 1 ADD CALLER GAS CALL POP "} {
			for _, sponsoredBy := range []bool{false, true} {
				x := plain()
				if sponsoredBy {
					x = sponsored()
				}
				code := assemble("68 CALLDATALOAD 0 SSTORE 36 CALLDATALOAD 1 SSTORE " + pays + "32 100 RETURN")
				w := worldOf(party{me, code, deposit}, party{payer, answering(sponsoring(nil, api.Word{})), rich})
				w.SetBalance(me, word.From(rich))
				c, _, errno := verify(t, pays, w, x)
				missing := uint64(0)
				if !sponsoredBy && deposit < whole {
					missing = whole - deposit
				}
				if got := w.Slot(me, api.Word{}); got != word.From(missing) || w.Slot(me, api.Word{1}) != userop.Hash(x, api.Word{12}) {
					t.Errorf("deposit %d: it is told %v, want %d", deposit, got, missing)
				}
				short := !sponsoredBy && (missing > 0 && pays == "" || missing > 0 && pays[8] == '1')
				if short != (errno == api.ErrEntryFunds) || !short && errno != api.OK || !short && c.Prefund == (api.Word{}) {
					t.Errorf("deposit %d, %q: %v", deposit, pays, errno)
				}
			}
		}
	}
}

// TestVerifyAnswers: what the sender answers.
func TestVerifyAnswers(t *testing.T) {
	long := sample.Noise(100, 5)
	for n := range len(long) {
		for how, want := range map[string]api.Errno{"RETURN": api.OK, "REVERT": api.ErrEntryRevert} {
			if n < 32 {
				want = api.ErrEntryRevert
			}
			c, _, errno := verify(t, how, worldOf(party{me, assemble(ending(long[:n], how)), rich}), plain())
			if errno != want || errno == api.OK && c.Account != userop.Spans(word.Read(long[:32])) || errno != api.OK && !sameChecked(c, api.Checked{}) {
				t.Errorf("%s of %d bytes: %v, %v", how, n, c, errno)
			}
		}
	}
	for name, code := range map[string]string{"nothing": "STOP", "a fault": "#fe", "an endless loop": "#5b600056", "an own end": "0x55 SELFDESTRUCT"} {
		if _, l, errno := verify(t, name, worldOf(party{me, assemble(code), rich}), plain()); errno != api.ErrEntryRevert || len(l[1]) == 0 {
			t.Errorf("%s: %v", name, errno)
		}
	}
	for _, a := range []api.Word{{}, {1}, {0, 0, 5 << 32}, {0, 0, 0, 1 << 16}, {0, 0, 5<<32 | 1, 7 << 16}, {most, most, most, most}} {
		if c, _, errno := verify(t, "a word", worldOf(party{me, telling(a), rich}), plain()); errno != api.OK || c.Account != userop.Spans(a) || c.Payer != (api.Span{}) {
			t.Errorf("%v: %v, %v", a, c, errno) // it is not asked here whether that holds
		}
	}
}

// TestVerifyFunds: the deposit pays the prefund, to the last of it.
func TestVerifyFunds(t *testing.T) {
	whole := prefund(plain())
	for _, deposit := range []uint64{0, whole - 1, whole, whole + 1} {
		w := worldOf(party{me, fine, deposit})
		_, _, errno := verify(t, number(deposit), w, plain())
		left := deposit
		want := api.ErrEntryFunds
		if deposit >= whole {
			left, want = deposit-whole, api.OK
		}
		if errno != want || desk.Deposit(w, me) != word.From(left) {
			t.Errorf("deposit %d: %v, %v is left", deposit, errno, desk.Deposit(w, me))
		}
	}
	free := api.UserOp{Sender: me, VerifyGas: 100} // costs nothing
	if _, _, errno := verify(t, "free", worldOf(party{me, fine, 0}), free); errno != api.OK {
		t.Error(errno)
	}
}

// TestVerifyNonce: the next one of its key.
func TestVerifyNonce(t *testing.T) {
	for _, x := range []struct {
		nonce api.Word
		used  uint64 // how many of the key were used
		want  api.Errno
	}{
		{api.Word{}, 0, api.OK}, {api.Word{1}, 0, api.ErrEntryNonce}, {api.Word{}, 1, api.ErrEntryNonce}, {api.Word{1}, 1, api.OK}, {api.Word{3}, 2, api.ErrEntryNonce},
		{api.Word{0, 5}, 0, api.OK}, {api.Word{2, 5}, 2, api.OK}, {api.Word{2, 5}, 1, api.ErrEntryNonce}, {api.Word{0, most}, 0, api.OK}, {api.Word{0, 0, 1}, 0, api.ErrEntryNonce}, {api.Word{0, 0, 0, 1}, 0, api.ErrEntryNonce},
	} {
		w := worldOf(party{me, fine, rich})
		for i := range x.used {
			desk.Use(w, me, api.Word{i, x.nonce[1]})
		}
		op := plain()
		op.Nonce = x.nonce
		_, _, errno := verify(t, "nonce", w, op)
		after := x.used
		if x.want == api.OK {
			after++
		}
		if errno != x.want || x.nonce[2] == 0 && x.nonce[3] == 0 && desk.Nonce(w, me, word.From(x.nonce[1])) != (api.Word{after, x.nonce[1]}) {
			t.Errorf("%v behind %d: %v, want %v", x.nonce, x.used, errno, x.want)
		}
		if desk.Deposit(w, me) != word.From(rich-prefund(op)) {
			t.Errorf("%v: the prefund is not taken", x.nonce)
		}
	}
}

// TestVerifyPaymaster: it is there, and has the prefund.
func TestVerifyPaymaster(t *testing.T) {
	x := sponsored()
	whole := prefund(x)
	for name, y := range map[string]struct {
		code    []byte
		deposit uint64
		want    api.Errno
	}{
		"all":             {answering(sponsoring(nil, api.Word{})), whole, api.OK},
		"no code":         {nil, whole, api.ErrEntryPayNone},
		"no code nor so":  {nil, 0, api.ErrEntryPayNone},
		"too little":      {answering(sponsoring(nil, api.Word{})), whole - 1, api.ErrEntryDeposit},
		"nothing":         {fine, 0, api.ErrEntryDeposit},
		"more":            {answering(sponsoring(nil, api.Word{})), whole + 1, api.OK},
		"fails":           {assemble("#fe"), whole, api.ErrEntryPayer},
		"stops":           {assemble("STOP"), whole, api.ErrEntryPayer},
		"reverts":         {assemble(ending(sponsoring(nil, api.Word{}), "REVERT")), whole, api.ErrEntryPayer},
		"a word alone":    {fine, whole, api.ErrEntryPayer},
		"pays in itself":  {assemble("0 0 0 0 9 CALLER GAS CALL POP " + ending(sponsoring(nil, api.Word{}), "RETURN")), whole - 1, api.ErrEntryDeposit},
		"pays in, enough": {assemble("0 0 0 0 9 CALLER GAS CALL POP " + ending(sponsoring(nil, api.Word{}), "RETURN")), whole, api.OK},
	} {
		w := worldOf(party{me, fine, 5}, party{payer, y.code, y.deposit})
		_, l, errno := verify(t, name, w, x)
		if errno != y.want || desk.Nonce(w, me, api.Word{}) != (api.Word{1}) || desk.Deposit(w, me) != (api.Word{5}) || len(l[1]) == 0 || len(l[2]) > 0 {
			t.Errorf("%s: %v, want %v", name, errno, y.want)
		}
		if called := errno == api.OK || errno == api.ErrEntryPayer; called != (len(l[3]) > 0) {
			t.Errorf("%s: %d events of the paymaster", name, len(l[3]))
		}
	}
}

// TestVerifySponsors: what the paymaster answers is bytes and a word.
func TestVerifySponsors(t *testing.T) {
	x := sponsored()
	ask := func(out []byte) (api.Checked, api.Errno) {
		c, _, errno := verify(t, "sponsor", worldOf(party{me, fine, 0}, party{payer, answering(out), rich}), x)
		return c, errno
	}
	for _, a := range []api.Word{{}, {1}, {0, 0, 5 << 32}, {0, 0, 0, 1 << 16}, {most, most, most, most}} {
		for _, n := range []int{0, 1, 31, 32, 33, 100} {
			context := sample.Noise(n, 8)
			c, errno := ask(sponsoring(context, a))
			if errno != api.OK || c.Payer != userop.Spans(a) || !bytes.Equal(c.Context, context) || c.Account != (api.Span{}) {
				t.Errorf("%v and %d bytes: %v, %v", a, n, c, errno)
			}
		}
	}
	right := sponsoring(sample.Noise(40, 8), api.Word{7})
	for n := range len(right) {
		_, errno := ask(right[:n])
		if is := n >= 96+40; is != (errno == api.OK) || !is && errno != api.ErrEntryPayer {
			t.Errorf("%d of its bytes: %v", n, errno)
		}
	}
	for _, head := range []byte{0, 32, 63, 64, 65, 128, 200} {
		wrong := slices.Clone(right)
		wrong[31] = head
		ask(wrong) // as abi has it
	}
}

// TestVerifyOrder: of several things that are wrong the first one counts.
func TestVerifyOrder(t *testing.T) {
	x := full()
	x.Nonce = api.Word{5}
	told := word.Bytes(word.Wide(x.Sender))
	w := worldOf(party{x.Sender, fine, 0})
	for _, y := range []struct {
		want api.Errno
		mend func() // behind it
	}{
		{api.ErrEntryThere, func() { w = worldOf() }},
		{api.ErrEntryCreate, func() { w = worldOf(party{factory, fine, 0}) }},
		{api.ErrEntrySender, func() { w = worldOf(party{factory, answering(told), 0}) }},
		{api.ErrEntryEmpty, func() { w = worldOf(party{factory, making(assemble("STOP")), 0}) }},
		{api.ErrEntryRevert, func() { w = worldOf(party{factory, making(telling(api.Word{1})), 0}) }},
		{api.ErrEntryNonce, func() { w, x.Nonce = worldOf(party{factory, making(telling(api.Word{1})), 0}), api.Word{} }},
		{api.ErrEntryPayNone, func() { w = worldOf(party{factory, making(telling(api.Word{1})), 0}, party{payer, fine, 0}) }},
		{api.ErrEntryDeposit, func() { w = worldOf(party{factory, making(telling(api.Word{1})), 0}, party{payer, fine, rich}) }},
		{api.ErrEntryPayer, func() {
			w = worldOf(party{factory, making(telling(api.Word{1})), 0}, party{payer, answering(sponsoring(nil, api.Word{1})), rich})
		}},
		{api.OK, func() {
			x.HasPaymaster, x.Paymaster, x.PayVerifyGas, x.PostGas, x.PayData = false, api.Address{}, 0, 0, nil
			x.Nonce = api.Word{1}
			w = worldOf(party{factory, making(telling(api.Word{1})), 0})
		}},
		{api.ErrEntryFunds, func() {
			w = worldOf(party{factory, making(telling(api.Word{1})), 0}, party{x.Sender, nil, rich})
		}},
		{api.ErrEntryNonce, func() {}},
	} {
		if _, _, errno := verify(t, "order", w, x); errno != y.want {
			t.Errorf("%v, want %v", errno, y.want)
		}
		y.mend()
	}
}

// TestVerifyArguments: an operation is neither changed nor kept, nor is what stands behind its pieces read.
func TestVerifyArguments(t *testing.T) {
	for n := range 2 {
		x := full()
		pieces := []*[]byte{&x.FactoryData, &x.CallData, &x.PayData, &x.Sig}
		for i, p := range pieces {
			b := sample.Noise(90, uint64(i))
			*p = b[: 40 : 40+50*n]
		}
		note := either(asked, assemble(ending(make([]byte, 32), "RETURN")), assemble("STOP"))
		w := worldOf(party{factory, making(note), 0}, party{payer, answering(sponsoring([]byte("some"), api.Word{})), rich})
		m := model{w.Copy(), block(), beneficiary}
		want, wantEvents, _ := m.verify(x)
		c, l, errno := entry.Verify(w, block(), beneficiary, x)
		for i, p := range pieces {
			if b := (*p)[:cap(*p)]; !bytes.Equal(b, sample.Noise(90, uint64(i))[:len(b)]) {
				t.Errorf("piece %d was changed", i)
			}
			for j := range (*p)[:cap(*p)] {
				(*p)[:cap(*p)][j] ^= 0xff
			}
		}
		if errno != api.OK || !sameChecked(c, want) || !sample.SameWorlds(w, m.w, everyone()) {
			t.Errorf("%v, %v, want %v", c, errno, want)
		}
		clear(c.Context[:cap(c.Context)])
		for role := range l {
			if !sample.SameEvents(l[role], wantEvents[role]) {
				t.Errorf("role %d: the events are kept", role)
			}
		}
	}
}
