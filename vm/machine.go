package vm

import (
	"bytes"
	"errors"

	"quaestor/api"
	"quaestor/store"
)

// machine does a message: on a World, which it changes; frames are those that have not ended, each of them begun by the one ahead of it.
type machine struct {
	*store.World
	block  api.Block
	origin api.Address
	price  api.Word
	frames []*frame
	silent bool // nobody asks for events
	events []api.Event
	hashes memo[api.Word]
	jumps  memo[[]uint64] // where code may jump to
}

// memo is what was found out about code, by the code: who runs it pays no more for long code than for short.
type memo[V any] map[string]V

// of is what a function finds out about code, or has found out before.
func (m memo[V]) of(code []byte, find func([]byte) V) V {
	v, is := m[string(code)]
	if !is {
		v = find(code)
		m[string(code)] = v
	}
	return v
}

// newMachine is one that has done nothing.
func newMachine(w *store.World, b api.Block, origin api.Address, price api.Word) *machine {
	return &machine{World: w, block: b, origin: origin, price: price, hashes: memo[api.Word]{}, jumps: memo[[]uint64]{}}
}

// do does a message whose gas is paid for.
func (m *machine) do(x api.Message) api.Result {
	t := task{caller: x.From, self: x.To, target: x.To, value: x.Value, data: x.Data, gas: x.Gas}
	if x.Create {
		t.creates, t.self = true, Made(x.From, m.Nonce(x.From))
	}
	r, ended := m.begin(t)
	for !ended {
		r, ended = m.advance()
	}
	r.Out = bytes.Clone(r.Out) // until here it may be a piece of some memory
	return r
}

// advance does the next operation. If that ends the outermost frame, it answers what the message comes to, and true.
func (m *machine) advance() (api.Result, bool) {
	top := len(m.frames) - 1
	f := m.frames[top]
	err := f.step()
	if err == nil {
		return api.Result{}, false
	}
	m.frames[top] = nil
	m.frames = m.frames[:top]
	r := m.finish(f.task, err)
	if top == 0 {
		return r, true
	}
	m.frames[top-1].receive(f.task, r)
	return api.Result{}, false
}

// finish is what a task comes to that ends by an error, with the gas that it has left.
func (m *machine) finish(t task, err error) api.Result {
	var e ending
	errors.As(err, &e)
	var errno api.Errno
	switch {
	case errors.As(err, &errno):
		m.Back(t.mark)
		m.tell(api.Event{Op: e.op, Depth: t.depth, Self: t.self, Fault: errno})
		return api.Result{Status: api.DoneFault, Fault: errno}
	case errors.Is(err, errReverted):
		m.Back(t.mark)
		return api.Result{Status: api.DoneRevert, Gas: t.gas, Out: e.out}
	case t.creates:
		return api.Result{Status: api.DoneOK, Gas: t.gas, Made: t.self}
	}
	return api.Result{Status: api.DoneOK, Gas: t.gas, Out: e.out}
}

// tell records an event.
func (m *machine) tell(e api.Event) {
	if !m.silent {
		m.events = append(m.events, e)
	}
}
