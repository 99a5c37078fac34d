package store_test

import (
	"bytes"
	"slices"
	"testing"

	"quaestor/api"
	"quaestor/sample"
	"quaestor/store"
	"quaestor/word"
)

// The calls have the signatures that the chapter lists.
var (
	_    func([]api.Entry) *store.World                              = store.New
	_    func(*store.World) []api.Entry                              = (*store.World).Entries
	_    func(*store.World) *store.World                             = (*store.World).Copy
	_    func(*store.World, api.Address) uint64                      = (*store.World).Nonce
	_    func(*store.World, api.Address) api.Word                    = (*store.World).Balance
	_    func(*store.World, api.Address) []byte                      = (*store.World).Code
	_    func(*store.World, api.Address, uint64)                     = (*store.World).SetNonce
	_    func(*store.World, api.Address, api.Word)                   = (*store.World).SetBalance
	_    func(*store.World, api.Address, []byte)                     = (*store.World).SetCode
	_    func(*store.World, api.Address, api.Word, api.Word)         = (*store.World).SetSlot
	_    func(*store.World, api.Address, api.Address, api.Word) bool = (*store.World).Pay
	_, _ func(*store.World)                                          = (*store.World).Begin, (*store.World).End
	_    func(*store.World) int                                      = (*store.World).Mark
	_    func(*store.World, int)                                     = (*store.World).Back
	_, _ func(*store.World, api.Address) bool                        = (*store.World).There, (*store.World).Touch
	_    func(*store.World, api.Address, api.Word) bool              = (*store.World).TouchSlot
	_, _ func(*store.World, api.Address, api.Word) api.Word          = (*store.World).Slot, (*store.World).Original
	_    func(*store.World, int64)                                   = (*store.World).Refund
	_    func(*store.World) int64                                    = (*store.World).Refunds
	_    func(*store.World, api.Log)                                 = (*store.World).Log
	_    func(*store.World) []api.Log                                = (*store.World).Logs
	_    func(*store.World, api.Address)                             = (*store.World).Kill
	_    func(*store.World) (api.Word, bool)                         = (*store.World).Total
)

const most uint64 = 1<<64 - 1

// high is the greatest word.
func high() api.Word { return api.Word{most, most, most, most} }

// addresses part in one bit: of the first byte, of the last one, or of one between.
func addresses() []api.Address {
	return []api.Address{{}, {1}, {2}, {19: 1}, {19: 2}, {10: 0x80}, {1, 19: 1}}
}

// words part in one bit.
func words() []api.Word {
	return []api.Word{{}, {1}, {2}, {1 << 63}, {0, 1}, {0, 0, 1}, {0, 0, 0, 1}, {0, 0, 0, 1 << 63}, {1, 1}, high()}
}

func TestExample(t *testing.T) {
	a, b := api.Address{0xaa}, api.Address{0xbb}
	w := store.New([]api.Entry{{Addr: a, Account: api.Account{Balance: api.Word{5}}}})
	if !w.Pay(a, b, api.Word{3}) || w.Pay(a, b, api.Word{3}) {
		t.Error("Pay")
	}
	m := w.Mark()
	w.SetSlot(a, api.Word{1}, api.Word{7})
	if w.Touch(b) || w.Original(a, api.Word{1}) != (api.Word{}) {
		t.Error("ahead of Back")
	}
	w.Back(m)
	if w.Slot(a, api.Word{1}) != (api.Word{}) || w.Touch(b) || w.Original(a, api.Word{1}) != (api.Word{}) {
		t.Error("behind Back")
	}
}

func TestNothing(t *testing.T) {
	for _, w := range []*store.World{store.New(nil), store.New([]api.Entry{}), store.New([]api.Entry{{}, {Addr: api.Address{1}}}), store.New(nil).Copy()} {
		for _, a := range addresses() {
			if w.There(a) || w.Nonce(a) != 0 || w.Balance(a) != (api.Word{}) || len(w.Code(a)) != 0 {
				t.Errorf("%x is there", a)
			}
			for _, key := range words() {
				if w.Slot(a, key) != (api.Word{}) || w.Original(a, key) != (api.Word{}) {
					t.Errorf("%x, %x is there", a, key)
				}
			}
		}
		if sum, great := w.Total(); sum != (api.Word{}) || great {
			t.Errorf("Total: %x, %v", sum, great)
		}
		if len(w.Entries()) != 0 || len(w.Logs()) != 0 || w.Refunds() != 0 {
			t.Error("there is something")
		}
	}
}

func TestThere(t *testing.T) {
	a := api.Address{7}
	for _, v := range words() {
		w := store.New(nil)
		w.SetBalance(a, v)
		if w.There(a) != (v != api.Word{}) {
			t.Errorf("balance %x: %v", v, w.There(a))
		}
		w.SetBalance(a, api.Word{})
		w.SetSlot(a, v, high())
		if w.There(a) {
			t.Errorf("slot %x: there", v)
		}
	}
	for _, n := range []uint64{1, 1 << 63, most} {
		w := store.New(nil)
		w.SetNonce(a, n)
		if !w.There(a) || w.There(api.Address{8}) {
			t.Errorf("nonce %d", n)
		}
		w.SetNonce(a, 0)
		if w.There(a) {
			t.Errorf("nonce %d, then 0: there", n)
		}
	}
	w := store.New([]api.Entry{{Addr: a, Account: api.Account{Code: []byte{0}}}})
	if !w.There(a) {
		t.Error("code of a byte 0: not there")
	}
	w.SetCode(a, []byte{})
	if w.There(a) || len(w.Entries()) != 0 {
		t.Error("no code: there")
	}
}

func TestNewTwice(t *testing.T) {
	a, b := api.Address{1}, api.Address{2}
	slots := []api.Slot{{Key: api.Word{1}, Value: api.Word{5}}, {Key: api.Word{2}, Value: api.Word{6}}}
	w := store.New([]api.Entry{
		{Addr: a, Account: api.Account{Nonce: 1, Balance: api.Word{2}, Code: []byte{3}, Slots: slots}},
		{Addr: b, Account: api.Account{Nonce: 4, Slots: slots[:1]}},
		{Addr: a, Account: api.Account{Balance: api.Word{7}, Slots: []api.Slot{
			{Key: api.Word{3}, Value: api.Word{8}}, {Key: api.Word{4}, Value: api.Word{9}}, {Key: api.Word{3}, Value: api.Word{10}}, {Key: api.Word{4}}, {Key: api.Word{5}}, {Key: api.Word{5}, Value: api.Word{11}},
		}}},
		{Addr: b},
	})
	want := []api.Entry{{Addr: a, Account: api.Account{Balance: api.Word{7}, Slots: []api.Slot{{Key: api.Word{3}, Value: api.Word{10}}, {Key: api.Word{5}, Value: api.Word{11}}}}}}
	if got := w.Entries(); !sample.SameEntries(got, want) {
		t.Errorf("%v", got)
	}
	if w.Nonce(a) != 0 || len(w.Code(a)) != 0 || w.Slot(a, api.Word{1}) != (api.Word{}) || w.There(b) {
		t.Error("an earlier entry counts")
	}
	if w.Original(a, api.Word{3}) != (api.Word{10}) || w.Original(a, api.Word{4}) != (api.Word{}) {
		t.Error("the originals are not what counts")
	}
}

// TestEntries draws accounts; the map's order must not be seen.
func TestEntries(t *testing.T) {
	d := sample.Dice(1)
	var want []api.Entry
	for i := range 300 {
		e := api.Entry{Addr: api.Address(sample.Noise(20, uint64(i)))}
		copy(e.Addr[:], make([]byte, d.Below(20))) // so that the first bytes are often the same
		e.Account.Nonce = uint64(d.Below(2))
		for range d.Below(20) {
			e.Account.Slots = append(e.Account.Slots, api.Slot{Key: api.Word{uint64(d.Below(1 << 20)), 0, 0, uint64(d.Below(3))}, Value: api.Word{0, 1}})
		}
		slices.SortFunc(e.Account.Slots, func(x, y api.Slot) int { return bytes.Compare(word.Bytes(x.Key), word.Bytes(y.Key)) })
		e.Account.Slots = slices.Compact(e.Account.Slots)
		if e.Account.Nonce > 0 || len(e.Account.Slots) > 0 {
			want = append(want, e)
		}
	}
	slices.SortFunc(want, func(x, y api.Entry) int { return bytes.Compare(x.Addr[:], y.Addr[:]) })
	want = slices.CompactFunc(want, func(x, y api.Entry) bool { return x.Addr == y.Addr })
	given := slices.Clone(want)
	slices.Reverse(given)
	for i, e := range given {
		given[i].Account.Slots = slices.Clone(e.Account.Slots)
		slices.Reverse(given[i].Account.Slots)
	}
	w := store.New(given)
	for range 5 {
		if !sample.SameEntries(w.Entries(), want) || !sample.SameEntries(w.Copy().Entries(), want) || !sample.SameEntries(store.New(w.Entries()).Entries(), want) {
			t.Fatal("not the same entries")
		}
	}
}

// TestEntriesKinds shows which accounts are told.
func TestEntriesKinds(t *testing.T) {
	w := store.New(nil)
	a, b, c, d, e, f := api.Address{6}, api.Address{5}, api.Address{4}, api.Address{3}, api.Address{2}, api.Address{1}
	w.SetNonce(a, 1)
	w.SetBalance(b, api.Word{2})
	w.SetCode(c, []byte{3})
	w.SetSlot(d, api.Word{4}, api.Word{5})
	w.SetSlot(e, api.Word{4}, api.Word{5})
	w.SetSlot(e, api.Word{4}, api.Word{})
	w.Touch(f)
	w.TouchSlot(f, api.Word{})
	want := []api.Entry{
		{Addr: d, Account: api.Account{Slots: []api.Slot{{Key: api.Word{4}, Value: api.Word{5}}}}},
		{Addr: c, Account: api.Account{Code: []byte{3}}},
		{Addr: b, Account: api.Account{Balance: api.Word{2}}},
		{Addr: a, Account: api.Account{Nonce: 1}},
	}
	if got := w.Entries(); !sample.SameEntries(got, want) {
		t.Errorf("%v", got)
	}
}

// TestApart sets each of all things to something else, so that none is taken for another one.
func TestApart(t *testing.T) {
	w := store.New(nil)
	n := uint64(0)
	next := func() uint64 { n++; return n }
	for _, a := range addresses() {
		w.SetNonce(a, next())
		w.SetBalance(a, api.Word{0, next()})
		w.SetCode(a, []byte{byte(next())})
		for _, key := range words() {
			w.SetSlot(a, key, api.Word{next()})
		}
	}
	n = 0
	for _, a := range addresses() {
		if w.Nonce(a) != next() || w.Balance(a) != (api.Word{0, next()}) || !bytes.Equal(w.Code(a), []byte{byte(next())}) {
			t.Errorf("%x", a)
		}
		for _, key := range words() {
			if w.Slot(a, key) != (api.Word{next()}) || w.Original(a, key) != (api.Word{}) {
				t.Errorf("%x, %x", a, key)
			}
		}
	}
}

func TestPay(t *testing.T) {
	a, b := api.Address{1}, api.Address{2}
	for _, x := range []struct {
		from, to, v api.Word
		paid        bool
		less, more  api.Word
	}{
		{api.Word{5}, api.Word{}, api.Word{3}, true, api.Word{2}, api.Word{3}},
		{api.Word{5}, api.Word{1}, api.Word{5}, true, api.Word{}, api.Word{6}},
		{api.Word{5}, api.Word{1}, api.Word{6}, false, api.Word{5}, api.Word{1}},
		{api.Word{5}, api.Word{9}, api.Word{0, 1}, false, api.Word{5}, api.Word{9}},
		{api.Word{}, api.Word{}, api.Word{}, true, api.Word{}, api.Word{}},
		{api.Word{}, api.Word{7}, api.Word{1}, false, api.Word{}, api.Word{7}},
		{api.Word{0, 1}, api.Word{most}, api.Word{1}, true, api.Word{most}, api.Word{0, 1}},
		{api.Word{2}, high(), api.Word{2}, true, api.Word{}, api.Word{1}}, // modulo 2^256
		{high(), high(), high(), true, api.Word{}, api.Word{most - 1, most, most, most}},
	} {
		w := store.New([]api.Entry{{Addr: a, Account: api.Account{Nonce: 3, Balance: x.from}}, {Addr: b, Account: api.Account{Balance: x.to}}})
		if paid := w.Pay(a, b, x.v); paid != x.paid || w.Balance(a) != x.less || w.Balance(b) != x.more || w.Nonce(a) != 3 {
			t.Errorf("%x of %x to %x: %v, %x, %x", x.v, x.from, x.to, paid, w.Balance(a), w.Balance(b))
		}
		if paid := w.Pay(a, a, x.less); !paid || w.Balance(a) != x.less {
			t.Errorf("%x to oneself: %v, %x", x.less, paid, w.Balance(a))
		}
		if x.less != high() {
			over, _ := word.Add(x.less, api.Word{1})
			if w.Pay(a, a, over) || w.Balance(a) != x.less {
				t.Errorf("%x to oneself, of %x", over, x.less)
			}
		}
	}
}

func TestTotal(t *testing.T) {
	half := api.Word{0, 0, 0, 1 << 63}
	for _, x := range []struct {
		l     []api.Word
		sum   api.Word
		great bool
	}{
		{[]api.Word{{5}}, api.Word{5}, false},
		{[]api.Word{{5}, {}, {most}, {0, 3}}, api.Word{4, 4}, false},
		{[]api.Word{high()}, high(), false},
		{[]api.Word{high(), {1}}, api.Word{}, true},
		{[]api.Word{{1}, high(), {1}}, api.Word{1}, true},
		{[]api.Word{half, half}, api.Word{}, true},
		{[]api.Word{half, half, {9}, {9}, {9}}, api.Word{27}, true}, // too great on the way, and small in the end
		{[]api.Word{high(), high(), high(), high()}, api.Word{most - 3, most, most, most}, true},
		{[]api.Word{{most, most, most, 1<<63 - 1}, half}, high(), false},
	} {
		var l []api.Entry
		for i, v := range x.l {
			l = append(l, api.Entry{Addr: api.Address{byte(i)}, Account: api.Account{Balance: v, Slots: []api.Slot{{Key: v, Value: high()}}}})
		}
		if sum, great := store.New(l).Total(); sum != x.sum || great != x.great {
			t.Errorf("%x: %x, %v", x.l, sum, great)
		}
	}
}

// TestPayTotal shows that no payment changes the sum, unless a balance becomes too great.
func TestPayTotal(t *testing.T) {
	d := sample.Dice(2)
	l := addresses()
	w := store.New(nil)
	for _, a := range l {
		w.SetBalance(a, api.Word{uint64(d.Below(1000)), uint64(d.Below(3))})
	}
	before, _ := w.Total()
	for range 5000 {
		from, to := l[d.Below(len(l))], l[d.Below(len(l))]
		v := api.Word{uint64(d.Below(1500)), uint64(d.Below(2))}
		had := w.Balance(from)
		if paid := w.Pay(from, to, v); paid != (word.Cmp(had, v) >= 0) {
			t.Fatalf("%x of %x: %v", v, had, paid)
		}
		if after, great := w.Total(); after != before || great {
			t.Fatalf("%x from %x to %x: %x, not %x", v, from, to, after, before)
		}
	}
}
