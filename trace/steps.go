package trace

import (
	"quaestor/api"
	"quaestor/ops"
	"quaestor/places"
	"quaestor/word"
)

// steps are the places that were read, and written.
type steps struct{ reads, writes places.Set }

// Steps is what events have read and written.
func Steps(l []api.Event) api.Foot {
	s := steps{places.Set{}, places.Set{}}
	for _, e := range l {
		if e.Fault == api.OK {
			s.take(e)
		}
	}
	return api.Foot{Reads: s.reads.Sorted(), Writes: s.writes.Sorted()}
}

// take adds the places of an operation.
func (s steps) take(e api.Event) {
	slot := api.Place{Addr: e.Self, Key: e.Arg}
	self, other := places.Whole(e.Self), places.Whole(word.Addr(e.Arg))
	switch e.Op {
	case ops.SLoad:
		s.reads.Add(slot)
	case ops.SStore:
		s.writes.Add(slot)
	case ops.SelfBalance:
		s.reads.Add(self)
	case ops.Balance, ops.ExtCodeSize, ops.ExtCodeCopy, ops.ExtCodeHash:
		s.reads.Add(other)
	case ops.Call, ops.CallCode, ops.DelegateCall, ops.StaticCall:
		s.reads.Add(other)
		if e.Value == (api.Word{}) {
			return
		}
		fallthrough
	case ops.Create, ops.Create2, ops.SelfDestruct:
		s.writes.Add(self, other)
	}
}
