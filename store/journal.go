package store

import (
	"cmp"
	"slices"

	"quaestor/api"
)

// What a step did.
const (
	changedAccount = iota
	changedSlot
	touchedPlace
	refunded
	logged
	killedAccount
	kinds
)

// step is an effect that can be taken back: what it was done to, and what was there before.
type step struct {
	kind    int
	place   api.Place
	account account
	slot    api.Word
	refund  int64 // that was added
}

// mark is what a Mark has answered, and how many steps there were then.
type mark struct{ number, steps int }

// journal is the steps since the first Mark that exists, and all these Marks, rising.
type journal struct {
	steps []step
	marks []mark
}

// note records a step, as long as a Mark exists from which it could be taken back.
func (j *journal) note(s step) {
	if len(j.marks) > 0 {
		j.steps = append(j.steps, s)
	}
}

// Mark is a number by which Back finds what is now.
func (w *World) Mark() int {
	w.taken++
	w.marks = append(w.marks, mark{w.taken, len(w.steps)})
	return w.taken
}

// Back makes all as it was at a Mark.
func (w *World) Back(m int) {
	i, is := slices.BinarySearchFunc(w.marks, m, func(x mark, m int) int { return cmp.Compare(x.number, m) })
	if !is {
		return
	}
	first, undo := w.marks[i].steps, undoers()
	for _, s := range slices.Backward(w.steps[first:]) {
		undo[s.kind](w, s)
	}
	w.steps = slices.Delete(w.steps, first, len(w.steps))
	w.marks = w.marks[:i]
}

// undoers are what takes back a step, by its kind.
func undoers() [kinds]func(*World, step) {
	return [kinds]func(*World, step){
		changedAccount: (*World).undoAccount,
		changedSlot:    (*World).undoSlot,
		touchedPlace:   (*World).undoTouch,
		refunded:       (*World).undoRefund,
		logged:         (*World).undoLog,
		killedAccount:  (*World).undoKill,
	}
}

func (w *World) undoAccount(s step) { put(w.accounts, s.place, s.account) }

func (w *World) undoSlot(s step) { put(w.slots, s.place, s.slot) }

func (w *World) undoTouch(s step) { delete(w.touched, s.place) }

func (w *World) undoRefund(s step) { w.refunds -= s.refund }

func (w *World) undoLog(step) { w.logs = slices.Delete(w.logs, len(w.logs)-1, len(w.logs)) }

func (w *World) undoKill(s step) { delete(w.dead, s.place) }
