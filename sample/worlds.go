package sample

import (
	"quaestor/api"
	"quaestor/store"
	"quaestor/word"
)

// SameWorlds compares all that can be asked of Worlds; what was touched, of some accounts and of those that exist, and who is dead, is found on Copies.
func SameWorlds(v, w *store.World, who []api.Address) bool {
	if !SameEntries(v.Entries(), w.Entries()) || !SameLogs(v.Logs(), w.Logs()) || v.Refunds() != w.Refunds() {
		return false
	}
	x, y := v.Copy(), w.Copy()
	for _, a := range who {
		if !sameTouched(x, y, a, nil) {
			return false
		}
	}
	for _, e := range v.Entries() {
		if !sameTouched(x, y, e.Addr, e.Account.Slots) {
			return false
		}
	}
	x.End()
	y.End()
	return SameEntries(x.Entries(), y.Entries())
}

// sameTouched compares what was touched of an account: itself, its slots, and those whose keys are small.
func sameTouched(v, w *store.World, a api.Address, slots []api.Slot) bool {
	same := v.Touch(a) == w.Touch(a)
	for key := range uint64(8) {
		same = same && sameSlot(v, w, a, word.From(key))
	}
	for _, s := range slots {
		same = same && sameSlot(v, w, a, s.Key)
	}
	return same
}

func sameSlot(v, w *store.World, a api.Address, key api.Word) bool {
	return v.TouchSlot(a, key) == w.TouchSlot(a, key) && v.Original(a, key) == w.Original(a, key)
}
