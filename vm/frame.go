package vm

import (
	"bytes"
	"slices"

	"quaestor/api"
	"quaestor/code"
	"quaestor/word"
)

// frame is a task that is done by code. While a call that it has begun is being done, nothing in it changes: so what it passes may be pieces of its memory.
type frame struct {
	*machine
	task
	code   []byte
	at     uint64 // of the next operation
	stack  []api.Word
	memory []byte
	back   []byte   // what the last call answered
	answer []byte   // the piece of memory for what the present one will answer
	places []uint64 // where the code may jump to; not known before its first jump
}

// step does an operation. The error is what ends the frame.
func (f *frame) step() error {
	op := code.At(f.code, f.at)
	a := action{Event: api.Event{Op: op, Depth: f.depth, Self: f.self}, at: f.at}
	if errno := f.admit(&a); errno != api.OK {
		return ending{op: op, cause: errno}
	}
	f.describe(&a)
	f.tell(a.Event)
	f.at++
	return f.perform(&a)
}

// admit looks whether an operation may be done, and takes what it costs; else it is the fault.
func (f *frame) admit(a *action) api.Errno {
	takes, gives, known := code.Info(a.Op)
	below := len(f.stack) - takes
	switch {
	case !known:
		return api.ErrVMOp
	case below < 0 || below+gives > api.MaxStack:
		return api.ErrVMStack
	}
	a.load(f.stack[below:])
	if f.static && a.changes() {
		return api.ErrVMStatic
	}
	return f.charge(a)
}

// charge takes the gas that an operation costs, and lets it have the memory that it needs.
func (f *frame) charge(a *action) api.Errno {
	first, second := a.spans()
	size := max(first.end(), second.end())
	if size > api.MaxMem {
		return api.ErrVMGas
	}
	cost := f.cost(a, size)
	if cost > f.gas {
		return api.ErrVMGas
	}
	f.gas -= cost
	f.grow(size)
	a.in, a.out = f.piece(first), f.piece(second)
	return api.OK
}

// push puts words onto the stack, the last one on top.
func (f *frame) push(l ...api.Word) { f.stack = append(f.stack, l...) }

// may says whether the code may jump to a place. It asks for all places once, as asking for one takes as long.
func (f *frame) may(to api.Word) bool {
	if f.places == nil {
		f.places = f.jumps.of(f.code, code.Jumps)
	}
	place, small := word.Small(to)
	_, is := slices.BinarySearch(f.places, place)
	return small && is
}

// leave is how a frame ends with an output.
func (f *frame) leave(op byte, out []byte, cause error) error {
	if f.creates && cause == errDone {
		return f.found(op, out)
	}
	return ending{op, out, cause}
}

// found gives the account that is made its code, and takes what that costs.
func (f *frame) found(op byte, out []byte) error {
	cost := 200 * uint64(len(out))
	switch {
	case len(out) > api.MaxCode || bytes.HasPrefix(out, []byte{0xef}):
		return ending{cause: api.ErrVMCode}
	case cost > f.gas:
		return ending{cause: api.ErrVMGas}
	}
	f.gas -= cost
	f.SetCode(f.self, out)
	return ending{op: op, cause: errDone}
}
