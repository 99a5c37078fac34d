package sample

import (
	"bytes"
	"slices"

	"quaestor/api"
)

// SameEntries says whether accounts are the same.
func SameEntries(x, y []api.Entry) bool {
	return slices.EqualFunc(x, y, func(a, b api.Entry) bool {
		v, w := a.Account, b.Account
		return a.Addr == b.Addr && v.Nonce == w.Nonce && v.Balance == w.Balance && bytes.Equal(v.Code, w.Code) && slices.Equal(v.Slots, w.Slots)
	})
}

// SameEvents says whether events are.
func SameEvents(x, y []api.Event) bool { return slices.EqualFunc(x, y, SameEvent) }

// SameEvent says whether two events are.
func SameEvent(a, b api.Event) bool {
	return a.Op == b.Op && a.Depth == b.Depth && a.Self == b.Self && a.Arg == b.Arg && a.Value == b.Value && bytes.Equal(a.Data, b.Data) && a.Fault == b.Fault
}

// SameLogs says whether logs are.
func SameLogs(x, y []api.Log) bool {
	return slices.EqualFunc(x, y, func(a, b api.Log) bool {
		return a.Addr == b.Addr && slices.Equal(a.Topics, b.Topics) && bytes.Equal(a.Data, b.Data)
	})
}
