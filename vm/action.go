package vm

import (
	"bytes"

	"quaestor/api"
	"quaestor/keccak"
	"quaestor/ops"
	"quaestor/word"
)

// action is an operation that is being done, as the event that it is.
type action struct {
	api.Event
	at      uint64
	takes   int
	words   [7]api.Word // what it takes from the stack, the topmost first; those of the operations that take more are left in their place
	in, out []byte      // the pieces of memory that it uses
}

// load takes an operation's words from the top of the stack, which stays as it is.
func (a *action) load(top []api.Word) {
	a.takes = len(top)
	for i := range min(len(top), len(a.words)) {
		a.words[i] = top[len(top)-1-i]
	}
	switch a.Op {
	case ops.DelegateCall, ops.StaticCall: // with no value of their own they have the words of the other calls
		copy(a.words[3:], a.words[2:])
		a.words[2] = api.Word{}
	}
}

// changes says whether an operation may not be done in a static frame.
func (a *action) changes() bool {
	switch a.Op {
	case ops.SStore, ops.Create, ops.Create2, ops.SelfDestruct:
		return true
	case ops.Call:
		return a.words[2] != api.Word{}
	}
	return isLog(a.Op)
}

// spans are the ranges of memory that an operation uses.
func (a *action) spans() (span, span) {
	w := &a.words
	switch a.Op {
	case ops.Keccak256, ops.Return, ops.Revert, ops.Log0, ops.Log0 + 1, ops.Log0 + 2, ops.Log0 + 3, ops.Log4:
		return span{w[0], w[1]}, span{}
	case ops.CallDataCopy, ops.CodeCopy, ops.ReturnDataCopy:
		return span{w[0], w[2]}, span{}
	case ops.ExtCodeCopy:
		return span{w[1], w[3]}, span{}
	case ops.MLoad, ops.MStore:
		return span{w[0], word.From(32)}, span{}
	case ops.MStore8:
		return span{w[0], word.From(1)}, span{}
	case ops.Create, ops.Create2:
		return span{w[1], w[2]}, span{}
	case ops.Call, ops.CallCode, ops.DelegateCall, ops.StaticCall:
		return span{w[3], w[4]}, span{w[5], w[6]}
	}
	return span{}, span{}
}

// describe tells what an operation does beside its name.
func (f *frame) describe(a *action) {
	w := &a.words
	switch a.Op {
	case ops.SStore:
		a.Value = w[1]
		fallthrough
	case ops.SLoad:
		a.Arg = w[0]
	case ops.Balance, ops.ExtCodeSize, ops.ExtCodeHash, ops.ExtCodeCopy, ops.SelfDestruct:
		a.Arg = address(w[0])
	case ops.Call, ops.CallCode, ops.DelegateCall, ops.StaticCall:
		a.Arg, a.Value, a.Data = address(w[1]), w[2], bytes.Clone(a.in[:min(4, len(a.in))])
	case ops.Keccak256:
		a.Value = keccak.Sum(a.in)
		if len(a.in) <= 128 {
			a.Data = bytes.Clone(a.in)
		}
	case ops.Create:
		a.Arg, a.Value = word.Wide(Made(f.self, f.Nonce(f.self))), w[0]
	case ops.Create2:
		a.Arg, a.Value = word.Wide(Made2(f.self, w[3], a.in)), w[0]
	}
}

// address is a word without what is no part of an address.
func address(a api.Word) api.Word { return word.Wide(word.Addr(a)) }

// isLog says whether an operation logs.
func isLog(op byte) bool { return ops.Log0 <= op && op <= ops.Log4 }
