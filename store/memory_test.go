package store_test

import (
	"bytes"
	"slices"
	"testing"

	"quaestor/api"
	"quaestor/sample"
	"quaestor/store"
)

// spoil overwrites all that accounts have, up to the capacity of their lists.
func spoil(l []api.Entry) {
	for _, e := range l {
		clear(e.Account.Code[:cap(e.Account.Code)])
		clear(e.Account.Slots[:cap(e.Account.Slots)])
	}
	clear(l[:cap(l)])
}

func spoilLogs(l []api.Log) {
	for _, x := range l {
		clear(x.Topics[:cap(x.Topics)])
		clear(x.Data[:cap(x.Data)])
	}
	clear(l[:cap(l)])
}

// given are accounts with all that they can have.
func given() []api.Entry {
	var l []api.Entry
	for i := range 5 {
		x := api.Account{Nonce: uint64(i), Balance: api.Word{0, 0, uint64(i)}, Code: sample.Noise(10*i+1, uint64(i))}
		for j := range 3 * i {
			x.Slots = append(x.Slots, api.Slot{Key: api.Word{uint64(j)}, Value: api.Word{uint64(i), 1}})
		}
		l = append(l, api.Entry{Addr: api.Address{byte(i)}, Account: x})
	}
	return l
}

func TestNewArgument(t *testing.T) {
	l := given()
	w := store.New(l)
	for _, e := range l {
		w.SetCode(e.Addr, []byte{1})
		w.SetSlot(e.Addr, api.Word{}, api.Word{1})
	}
	if !sample.SameEntries(l, given()) {
		t.Error("the argument was changed")
	}
	w = store.New(l)
	spoil(l)
	if !sample.SameEntries(w.Entries(), given()) {
		t.Error("the argument was kept")
	}
}

// TestNewBehind shows that what stands behind the end of a list is neither read nor written.
func TestNewBehind(t *testing.T) {
	all := given()
	for n := range len(all) + 1 {
		if got := store.New(all[:n]).Entries(); !sample.SameEntries(got, given()[:n]) {
			t.Errorf("%d entries: %v", n, got)
		}
	}
	x := all[4].Account
	for n := range len(x.Slots) + 1 {
		w := store.New([]api.Entry{{Account: api.Account{Code: x.Code[:n], Slots: x.Slots[:n]}}})
		for _, e := range w.Entries() {
			if !bytes.Equal(e.Account.Code, x.Code[:n]) || !slices.Equal(e.Account.Slots, x.Slots[:n]) {
				t.Errorf("%d bytes, %d slots: %v", n, n, e)
			}
		}
	}
	if !sample.SameEntries(all, given()) {
		t.Error("the argument was changed")
	}
}

func TestEntriesFresh(t *testing.T) {
	w := store.New(given())
	kept := w.Entries()
	spoil(w.Entries())
	if !sample.SameEntries(w.Entries(), given()) || !sample.SameEntries(kept, given()) {
		t.Error("the answers share their memory")
	}
	for i := range kept {
		spoil(kept[i : i+1 : i+1])
		if !sample.SameEntries(kept[i+1:], given()[i+1:]) {
			t.Errorf("entry %d shares memory with one behind it", i)
		}
	}
	w.SetSlot(api.Address{4}, api.Word{}, api.Word{77})
	kept = w.Entries()
	w.SetSlot(api.Address{4}, api.Word{}, api.Word{78})
	if kept[4].Account.Slots[0].Value != (api.Word{77}) {
		t.Error("an answer changes")
	}
}

func TestCode(t *testing.T) {
	a := api.Address{1}
	w := store.New(nil)
	for n := range 70 {
		code := sample.Noise(100, uint64(n))
		want := bytes.Clone(code[:n])
		m := w.Mark()
		w.SetCode(a, code[:n])
		if !bytes.Equal(code[:n], want) {
			t.Fatalf("%d bytes: the argument was changed", n)
		}
		clear(code)
		if !bytes.Equal(w.Code(a), want) {
			t.Fatalf("%d bytes: the argument was kept", n)
		}
		got, c := w.Code(a), w.Copy()
		clear(got[:cap(got)])
		if !bytes.Equal(w.Code(a), want) || !bytes.Equal(c.Code(a), want) {
			t.Fatalf("%d bytes: the answer shares its memory", n)
		}
		w.SetCode(a, []byte("another one"))
		w.Back(m)
		if len(w.Code(a)) != 0 || !bytes.Equal(c.Code(a), want) {
			t.Fatalf("%d bytes: not as before", n)
		}
	}
}

// told is a log with all that it can have.
func told() api.Log {
	return api.Log{Addr: api.Address{3}, Topics: []api.Word{{1}, {2}, {3}}, Data: []byte("some bytes")}
}

func TestLogArgument(t *testing.T) {
	w := store.New(nil)
	x := told()
	w.Log(api.Log{Addr: x.Addr, Topics: x.Topics[:1], Data: x.Data[:4]})
	w.Log(x)
	w.Log(x)
	if !sample.SameLogs([]api.Log{x}, []api.Log{told()}) {
		t.Error("the argument was changed")
	}
	spoilLogs([]api.Log{x})
	want := []api.Log{{Addr: api.Address{3}, Topics: []api.Word{{1}}, Data: []byte("some")}, told(), told()}
	if !sample.SameLogs(w.Logs(), want) {
		t.Errorf("the argument was kept: %v", w.Logs())
	}
	kept, c := w.Logs(), w.Copy()
	spoilLogs(w.Logs())
	if !sample.SameLogs(w.Logs(), want) || !sample.SameLogs(kept, want) {
		t.Error("the answers share their memory")
	}
	spoilLogs(c.Logs())
	if !sample.SameLogs(c.Logs(), want) {
		t.Error("the Copy's answers share their memory")
	}
	for i := range kept {
		spoilLogs(kept[i : i+1 : i+1])
		if !sample.SameLogs(kept[i+1:], want[i+1:]) {
			t.Errorf("log %d shares memory with one behind it", i)
		}
	}
}

// TestLogAfterCopy shows that neither a World nor its Copy sees what is logged in the other one.
func TestLogAfterCopy(t *testing.T) {
	for n := range 10 {
		w := store.New(nil)
		for range n {
			w.Log(told())
		}
		c := w.Copy()
		w.Log(api.Log{Addr: api.Address{1}})
		c.Log(api.Log{Addr: api.Address{2}})
		l, k := w.Logs(), c.Logs()
		if len(l) != n+1 || len(k) != n+1 || l[n].Addr != (api.Address{1}) || k[n].Addr != (api.Address{2}) {
			t.Errorf("%d logs, and another one each: %v, %v", n, l, k)
		}
	}
}

// seen is all that can be asked of a World. What was touched, and what is dead, is found on a Copy.
type seen struct {
	entries, ended []api.Entry
	logs           []api.Log
	refunds        int64
	touched        []bool
	originals      []api.Word
}

func look(w *store.World) seen {
	s := seen{entries: w.Entries(), logs: w.Logs(), refunds: w.Refunds()}
	c := w.Copy()
	for _, a := range addresses() {
		s.touched = append(s.touched, c.Touch(a))
		for _, key := range words() {
			s.touched = append(s.touched, c.TouchSlot(a, key))
			s.originals = append(s.originals, w.Original(a, key))
		}
	}
	c.End()
	s.ended = c.Entries()
	return s
}

func (s seen) same(o seen) bool {
	return sample.SameEntries(s.entries, o.entries) && sample.SameEntries(s.ended, o.ended) && sample.SameLogs(s.logs, o.logs) &&
		s.refunds == o.refunds && slices.Equal(s.touched, o.touched) && slices.Equal(s.originals, o.originals)
}

// TestCopy does to a World, and to its Copy, what there is to do: the other one stays as it was.
func TestCopy(t *testing.T) {
	a, b := api.Address{1}, api.Address{2}
	for name, do := range map[string]func(w *store.World){
		"effects": func(w *store.World) { effects(w, b) },
		"kill":    func(w *store.World) { w.Kill(b) },
		"clear": func(w *store.World) {
			w.SetNonce(a, 0)
			w.SetBalance(a, api.Word{})
			w.SetCode(a, nil)
			w.SetSlot(a, api.Word{1}, api.Word{})
			w.SetSlot(a, api.Word{2}, api.Word{1})
		},
		"pay":   func(w *store.World) { w.Pay(a, b, api.Word{1}) },
		"begin": func(w *store.World) { w.Begin() },
		"end":   func(w *store.World) { w.End() },
		"back":  func(w *store.World) { m := w.Mark(); effects(w, b); w.Back(m) },
	} {
		w := store.New(given())
		w.Mark()
		effects(w, a)
		w.Kill(api.Address{3})
		before := look(w)
		c := w.Copy()
		if !before.same(look(c)) {
			t.Fatal("the Copy is not the same")
		}
		do(c)
		if !before.same(look(w)) {
			t.Errorf("%s: changes what was copied", name)
		}
		c = w.Copy()
		do(w)
		if !before.same(look(c)) {
			t.Errorf("%s: changes the Copy", name)
		}
		if name != "back" && before.same(look(w)) {
			t.Errorf("%s: does nothing", name)
		}
	}
}

// TestWorlds shows that Worlds of the same accounts are two.
func TestWorlds(t *testing.T) {
	l := given()
	v, w := store.New(l), store.New(l)
	before := look(w)
	for _, e := range l {
		effects(v, e.Addr)
		v.Kill(e.Addr)
	}
	m := v.Mark()
	if !before.same(look(w)) {
		t.Error("the other one is changed")
	}
	effects(w, api.Address{9})
	before = look(w)
	w.Back(m)
	v.End()
	if !before.same(look(w)) {
		t.Error("the other one ends")
	}
}

func BenchmarkCopy(b *testing.B) {
	w := store.New(given())
	for b.Loop() {
		w.Copy()
	}
}

func BenchmarkSlots(b *testing.B) {
	w := store.New(given())
	n := uint64(0)
	for b.Loop() {
		m := w.Mark()
		for range 100 {
			n++
			w.SetSlot(api.Address{1}, api.Word{n % 1000}, api.Word{n})
		}
		w.Back(m)
	}
}
