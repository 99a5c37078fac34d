package store

import (
	"bytes"
	"maps"
	"slices"

	"quaestor/api"
)

// transaction is what has been done since the last Begin, beside what the accounts have come to.
type transaction struct {
	touched   places
	originals map[api.Place]api.Word // of the slots that were set
	refunds   int64
	logs      []api.Log
	dead      places
	journal
}

// places is a set of them.
type places map[api.Place]struct{}

// copied is the same, without the Marks.
func (t transaction) copied() transaction {
	return transaction{
		touched:   maps.Clone(t.touched),
		originals: maps.Clone(t.originals),
		refunds:   t.refunds,
		logs:      cloneLogs(t.logs),
		dead:      maps.Clone(t.dead),
	}
}

// Begin begins a transaction.
func (w *World) Begin() {
	w.transaction = transaction{touched: places{}, originals: map[api.Place]api.Word{}, dead: places{}}
}

// End ends it: what is dead goes.
func (w *World) End() {
	if len(w.dead) > 0 { // else no slot need be looked at
		w.bury()
	}
	w.Begin()
}

// bury takes away all that dead accounts have.
func (w *World) bury() {
	for p := range w.dead {
		delete(w.accounts, p)
	}
	maps.DeleteFunc(w.slots, func(p api.Place, _ api.Word) bool {
		_, is := w.dead[whole(p.Addr)]
		return is
	})
}

// Touch says whether an account was touched in this transaction; it is then.
func (w *World) Touch(a api.Address) bool { return w.join(touchedPlace, w.touched, whole(a)) }

// TouchSlot likewise of a word of an account's storage.
func (w *World) TouchSlot(a api.Address, key api.Word) bool {
	return w.join(touchedPlace, w.touched, slotOf(a, key))
}

// Kill lets an account go when the transaction ends.
func (w *World) Kill(a api.Address) { w.join(killedAccount, w.dead, whole(a)) }

// join puts a place into a set, and says whether it was there before. Only if it was not, there is something to take back.
func (w *World) join(kind int, set places, p api.Place) bool {
	_, before := set[p]
	if !before {
		set[p] = struct{}{}
		w.note(step{kind: kind, place: p})
	}
	return before
}

// Original is a word as it was when the transaction began.
func (w *World) Original(a api.Address, key api.Word) api.Word {
	if v, is := w.originals[slotOf(a, key)]; is {
		return v
	}
	return w.Slot(a, key)
}

// Refund gives back, or takes away again.
func (w *World) Refund(n int64) {
	w.refunds += n
	w.note(step{kind: refunded, refund: n})
}

func (w *World) Refunds() int64 { return w.refunds }

func (w *World) Log(x api.Log) {
	w.logs = append(w.logs, cloneLog(x))
	w.note(step{kind: logged})
}

func (w *World) Logs() []api.Log { return cloneLogs(w.logs) }

func cloneLog(x api.Log) api.Log {
	return api.Log{Addr: x.Addr, Topics: slices.Clone(x.Topics), Data: bytes.Clone(x.Data)}
}

func cloneLogs(l []api.Log) []api.Log {
	var c []api.Log
	for _, x := range l {
		c = append(c, cloneLog(x))
	}
	return c
}
