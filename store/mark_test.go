package store_test

import (
	"testing"

	"quaestor/api"
	"quaestor/sample"
	"quaestor/store"
)

// TestMarkNumbers shows that no number comes twice in a transaction, even of Marks that are no more.
func TestMarkNumbers(t *testing.T) {
	w := store.New(nil)
	seen := map[int]bool{}
	mark := func(w *store.World) int {
		m := w.Mark()
		if seen[m] {
			t.Fatalf("%d comes again", m)
		}
		seen[m] = true
		return m
	}
	for range 50 {
		first := mark(w)
		w.SetNonce(api.Address{}, 1)
		mark(w)
		mark(w)
		w.Back(mark(w))
		mark(w)
		w.Back(first)
	}
	c := w.Copy() // the transaction is the same
	for range 50 {
		mark(c)
	}
}

// TestNested takes Marks in one another and goes back to each of them, from the last one on, or at once.
func TestNested(t *testing.T) {
	const n = 20
	a := api.Address{1}
	for target := range n {
		w := store.New(nil)
		var marks []int
		for i := range n {
			marks = append(marks, w.Mark())
			w.SetNonce(a, uint64(i)+1)
			w.SetSlot(a, api.Word{uint64(i % 3)}, api.Word{uint64(i) + 1})
			w.Refund(1)
		}
		w.Back(marks[target])
		if w.Nonce(a) != uint64(target) || w.Refunds() != int64(target) {
			t.Errorf("back to %d: %d, %d", target, w.Nonce(a), w.Refunds())
		}
		for i := range uint64(3) {
			var want uint64
			for j := range uint64(target) {
				if j%3 == i {
					want = j + 1
				}
			}
			if got := w.Slot(a, api.Word{i}); got != (api.Word{want}) {
				t.Errorf("back to %d: slot %d is %x", target, i, got)
			}
		}
		w.SetNonce(a, 77)
		for _, m := range marks[target:] {
			w.Back(m)
		}
		if w.Nonce(a) != 77 {
			t.Errorf("back to %d: a later Mark is left", target)
		}
		for i := target - 1; i >= 0; i-- {
			w.Back(marks[i])
			if w.Nonce(a) != uint64(i) {
				t.Errorf("back to %d, and to %d: %d", target, i, w.Nonce(a))
			}
		}
	}
}

// TestMarkTwice takes Marks between which nothing happens.
func TestMarkTwice(t *testing.T) {
	a := api.Address{1}
	w := store.New(nil)
	w.SetNonce(a, 1)
	first, second := w.Mark(), w.Mark()
	w.SetNonce(a, 2)
	w.Back(second)
	if w.Nonce(a) != 1 {
		t.Error("the second one")
	}
	w.SetNonce(a, 3)
	w.Back(second)
	if w.Nonce(a) != 3 {
		t.Error("the second one again")
	}
	w.Back(first)
	if w.Nonce(a) != 1 {
		t.Error("the first one")
	}
	w.SetNonce(a, 4)
	w.Back(first)
	if w.Nonce(a) != 4 {
		t.Error("the first one again")
	}
}

// TestNoMark gives numbers that no Mark has answered.
func TestNoMark(t *testing.T) {
	a := api.Address{1}
	w := store.New(nil)
	wrong := func(skip int) {
		t.Helper()
		effects(w, a)
		before := w.Entries()
		for _, m := range []int{-1 << 63, -2, -1, 0, 1, 2, 3, 4, 5, 1 << 32, 1<<63 - 1} {
			if m != skip {
				w.Back(m)
			}
		}
		if !sample.SameEntries(w.Entries(), before) || w.Refunds() == 0 || len(w.Logs()) == 0 || !w.Touch(a) {
			t.Error("it went back")
		}
	}
	m := w.Mark()
	wrong(m)
	w.Back(m)
	wrong(m)
	w.Begin()
	wrong(-3)
}

// TestMarkOfAnother shows that a Mark of one World is none of its Copy, nor the other way round.
func TestMarkOfAnother(t *testing.T) {
	a := api.Address{1}
	w := store.New(nil)
	outer := w.Mark()
	w.SetNonce(a, 1)
	inner := w.Mark()
	w.SetNonce(a, 2)
	c := w.Copy()
	c.Back(inner)
	c.Back(outer)
	if c.Nonce(a) != 2 {
		t.Error("the Copy has the Marks")
	}
	w.Back(inner)
	if w.Nonce(a) != 1 || c.Nonce(a) != 2 {
		t.Error("the Mark is no more, by Copy")
	}
	own := c.Mark()
	c.SetNonce(a, 3)
	c.Back(outer)
	if c.Nonce(a) != 3 {
		t.Error("a Mark of the Copy is one that was there before")
	}
	c.Back(own)
	if c.Nonce(a) != 2 || w.Nonce(a) != 1 {
		t.Error("the Copy's own Mark")
	}
	w.Back(outer)
	if w.Nonce(a) != 0 || c.Nonce(a) != 2 {
		t.Error("the outer Mark")
	}
}

// TestBackAll takes each effect back by itself, when it was done before the Mark, too, and when not.
func TestBackAll(t *testing.T) {
	a, key := api.Address{1}, api.Word{1}
	for name, c := range map[string]struct {
		do   func(w *store.World)
		same func(w *store.World) bool
	}{
		"nonce":   {func(w *store.World) { w.SetNonce(a, 9) }, func(w *store.World) bool { return w.Nonce(a) == 3 }},
		"balance": {func(w *store.World) { w.SetBalance(a, api.Word{9}) }, func(w *store.World) bool { return w.Balance(a) == api.Word{4} }},
		"code":    {func(w *store.World) { w.SetCode(a, nil) }, func(w *store.World) bool { return string(w.Code(a)) == "\x05" }},
		"slot":    {func(w *store.World) { w.SetSlot(a, key, api.Word{}) }, func(w *store.World) bool { return w.Slot(a, key) == api.Word{2} }},
		"payment": {func(w *store.World) { w.Pay(a, api.Address{8}, api.Word{4}) }, func(w *store.World) bool { return w.Balance(a) == api.Word{4} && !w.There(api.Address{8}) }},
		"touched": {func(w *store.World) { w.Touch(a); w.Touch(api.Address{8}) }, func(w *store.World) bool { return w.Touch(a) && !w.Touch(api.Address{8}) }},
		"slots":   {func(w *store.World) { w.TouchSlot(a, key); w.TouchSlot(a, api.Word{8}) }, func(w *store.World) bool { return w.TouchSlot(a, key) && !w.TouchSlot(a, api.Word{8}) }},
		"refund":  {func(w *store.World) { w.Refund(-9) }, func(w *store.World) bool { return w.Refunds() == 6 }},
		"log":     {func(w *store.World) { w.Log(api.Log{}) }, func(w *store.World) bool { return len(w.Logs()) == 1 }},
		"dead":    {func(w *store.World) { w.Kill(a) }, func(w *store.World) bool { w.End(); return w.There(a) }},
	} {
		w := store.New(nil)
		effects(w, a)
		m := w.Mark()
		c.do(w)
		c.do(w)
		w.Back(m)
		if !c.same(w) {
			t.Errorf("%s: not as before", name)
		}
	}
}

// TestDeadBefore shows that Back leaves an account dead that was so at the Mark.
func TestDeadBefore(t *testing.T) {
	a := api.Address{1}
	w := store.New(nil)
	effects(w, a)
	w.Kill(a)
	m := w.Mark()
	w.Kill(a)
	w.Back(m)
	w.End()
	if w.There(a) {
		t.Error("not dead")
	}
}

// TestDeep has so many Marks in one another that going back must not look at more than what it takes back.
func TestDeep(t *testing.T) {
	const n = 200000
	a := api.Address{1}
	w := store.New(nil)
	var marks []int
	for i := range uint64(n) {
		marks = append(marks, w.Mark())
		w.SetNonce(a, i+1)
	}
	for i := n - 1; i >= 0; i-- {
		w.Back(marks[i])
		if w.Nonce(a) != uint64(i) {
			t.Fatalf("back to %d: %d", i, w.Nonce(a))
		}
	}
}
