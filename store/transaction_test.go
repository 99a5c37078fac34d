package store_test

import (
	"math"
	"testing"

	"quaestor/api"
	"quaestor/sample"
	"quaestor/store"
)

func TestTouch(t *testing.T) {
	w := store.New([]api.Entry{{Addr: api.Address{1}, Account: api.Account{Nonce: 1}}})
	for _, a := range addresses() {
		if w.Touch(a) || !w.Touch(a) || !w.Touch(a) {
			t.Errorf("%x", a)
		}
	}
	for _, a := range addresses() {
		for _, key := range words() {
			if w.TouchSlot(a, key) || !w.TouchSlot(a, key) {
				t.Errorf("%x, %x", a, key)
			}
		}
	}
	for _, a := range addresses() {
		if !w.Touch(a) {
			t.Errorf("%x is forgotten", a)
		}
	}
}

// TestTouchOnly shows that neither a slot's account, nor what is asked or set, is touched.
func TestTouchOnly(t *testing.T) {
	w := store.New(nil)
	a, b, key := api.Address{1}, api.Address{2}, api.Word{}
	w.TouchSlot(a, key)
	if w.Touch(a) {
		t.Error("by its slot")
	}
	w.Touch(b)
	w.SetSlot(b, key, api.Word{1})
	w.Slot(b, key)
	w.Original(b, key)
	if w.TouchSlot(b, key) {
		t.Error("by its account")
	}
	c := api.Address{3}
	w.SetNonce(c, 1)
	w.SetBalance(c, api.Word{1})
	w.SetCode(c, []byte{1})
	w.Pay(c, c, api.Word{1})
	w.There(c)
	w.Log(api.Log{Addr: c})
	w.Kill(c)
	w.Total()
	w.Entries()
	if w.Touch(c) {
		t.Error("by what was set")
	}
}

// effects are all that a transaction can do.
func effects(w *store.World, a api.Address) {
	w.Touch(a)
	w.TouchSlot(a, api.Word{1})
	w.SetSlot(a, api.Word{1}, api.Word{2})
	w.SetNonce(a, 3)
	w.SetBalance(a, api.Word{4})
	w.SetCode(a, []byte{5})
	w.Refund(6)
	w.Log(api.Log{Addr: a})
}

// checkBegun says whether nothing of a transaction is left.
func checkBegun(t *testing.T, w *store.World, a api.Address) {
	t.Helper()
	if w.Refunds() != 0 || len(w.Logs()) != 0 || w.Touch(a) || w.TouchSlot(a, api.Word{1}) {
		t.Error("something of the transaction is left")
	}
	if w.Original(a, api.Word{1}) != w.Slot(a, api.Word{1}) {
		t.Error("the original is not what was there")
	}
}

func TestBegin(t *testing.T) {
	a := api.Address{1}
	w := store.New(nil)
	effects(w, a)
	w.Kill(a)
	m := w.Mark()
	w.SetNonce(a, 7)
	w.Begin()
	before := w.Entries()
	checkBegun(t, w, a)
	w.Back(m)
	if w.Nonce(a) != 7 || w.Slot(a, api.Word{1}) != (api.Word{2}) {
		t.Error("a Mark is left")
	}
	w.End()
	if !sample.SameEntries(w.Entries(), before) {
		t.Error("the account is still dead")
	}
	w.Begin()
	w.Begin()
	if !sample.SameEntries(w.Entries(), before) {
		t.Error("the accounts are changed")
	}
}

func TestEnd(t *testing.T) {
	a, b := api.Address{1}, api.Address{2}
	w := store.New([]api.Entry{{Addr: a, Account: api.Account{Slots: []api.Slot{{Key: api.Word{9}, Value: api.Word{9}}}}}})
	effects(w, a)
	effects(w, b)
	kept := w.Entries()[1]
	w.Kill(a)
	w.Kill(a)
	w.Kill(api.Address{3})
	m := w.Mark()
	w.SetBalance(a, api.Word{10}) // behind Kill, and dead all the same
	w.SetSlot(a, api.Word{11}, api.Word{12})
	if !w.There(a) || w.Slot(a, api.Word{9}) != (api.Word{9}) {
		t.Error("dead ahead of End")
	}
	w.End()
	if w.There(a) || w.Nonce(a) != 0 || w.Balance(a) != (api.Word{}) || len(w.Code(a)) != 0 {
		t.Error("not dead")
	}
	for _, key := range []api.Word{{1}, {9}, {11}} {
		if w.Slot(a, key) != (api.Word{}) || w.Original(a, key) != (api.Word{}) {
			t.Errorf("slot %x is left", key)
		}
	}
	if !sample.SameEntries(w.Entries(), []api.Entry{kept}) {
		t.Errorf("%v", w.Entries())
	}
	w.Back(m)
	if w.There(a) {
		t.Error("a Mark is left")
	}
	checkBegun(t, w, a)
	checkBegun(t, w, b)
}

// TestEndOfOne shows that of all accounts only the dead one goes, and that it is dead for one transaction only.
func TestEndOfOne(t *testing.T) {
	for _, dead := range addresses() {
		w := store.New(nil)
		for _, a := range addresses() {
			effects(w, a)
		}
		w.Kill(dead)
		w.End()
		for _, a := range addresses() {
			gone := a == dead
			if w.There(a) == gone || (w.Slot(a, api.Word{1}) == api.Word{}) != gone {
				t.Errorf("%x, when %x is dead", a, dead)
			}
		}
		effects(w, dead)
		w.End()
		if !w.There(dead) || w.Slot(dead, api.Word{1}) != (api.Word{2}) {
			t.Errorf("%x is still dead", dead)
		}
	}
}

func TestOriginal(t *testing.T) {
	a := api.Address{1}
	for _, key := range words() {
		for _, first := range words() {
			w := store.New([]api.Entry{{Addr: a, Account: api.Account{Slots: []api.Slot{{Key: key, Value: first}}}}})
			m := w.Mark()
			for _, v := range words() {
				w.SetSlot(a, key, v)
				if w.Original(a, key) != first || w.Slot(a, key) != v {
					t.Fatalf("%x: %x, not %x", key, w.Original(a, key), first)
				}
			}
			if c := w.Copy(); c.Original(a, key) != first || c.Slot(a, key) != high() {
				t.Errorf("%x of a Copy: %x, not %x", key, c.Original(a, key), first)
			}
			w.Back(m)
			if w.Original(a, key) != first || w.Slot(a, key) != first {
				t.Errorf("%x behind Back: %x, not %x", key, w.Original(a, key), first)
			}
			w.SetSlot(a, key, high())
			w.End()
			if w.Original(a, key) != high() {
				t.Errorf("%x behind End: %x", key, w.Original(a, key))
			}
			w.SetSlot(a, key, first)
			if w.Original(a, key) != high() {
				t.Errorf("%x in another transaction: %x", key, w.Original(a, key))
			}
		}
	}
}

func TestRefund(t *testing.T) {
	w := store.New(nil)
	for _, x := range []struct{ n, sum int64 }{
		{0, 0}, {5, 5}, {-7, -2}, {2, 0}, {math.MaxInt64, math.MaxInt64}, {1, math.MinInt64}, {-1, math.MaxInt64}, {math.MinInt64, -1}, {math.MinInt64, math.MaxInt64},
	} {
		m := w.Mark()
		before := w.Refunds()
		w.Refund(x.n)
		w.Back(m)
		if w.Refunds() != before {
			t.Errorf("%d is not taken back", x.n)
		}
		w.Refund(x.n)
		if w.Refunds() != x.sum {
			t.Errorf("%d: %d, not %d", x.n, w.Refunds(), x.sum)
		}
	}
}

func TestLogs(t *testing.T) {
	w := store.New(nil)
	var want []api.Log
	for i := range 9 {
		x := api.Log{Addr: api.Address{byte(i % 3)}, Topics: words()[:i%5], Data: make([]byte, 40*i)}
		w.Log(x)
		want = append(want, x)
		if !sample.SameLogs(w.Logs(), want) || !sample.SameLogs(w.Copy().Logs(), want) {
			t.Fatalf("%d logs: %v", len(want), w.Logs())
		}
	}
	m := w.Mark()
	w.Log(api.Log{Addr: api.Address{99}})
	w.Log(api.Log{})
	if l := w.Logs(); len(l) != 11 || l[9].Addr != (api.Address{99}) {
		t.Errorf("%v", l)
	}
	w.Back(m)
	if !sample.SameLogs(w.Logs(), want) {
		t.Errorf("behind Back: %v", w.Logs())
	}
	w.Log(want[0])
	if !sample.SameLogs(w.Logs(), append(want, want[0])) {
		t.Errorf("and another one: %v", w.Logs())
	}
}
