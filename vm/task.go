package vm

import (
	"quaestor/api"
	"quaestor/desk"
	"quaestor/fees"
	"quaestor/sha"
	"quaestor/word"
)

// What the machine does at addresses by itself, beside the entry point's calls.
var (
	hasher = api.Address{19: 2}
	copier = api.Address{19: 4}
)

// task is a call or a creation: of target's code (of data, if it creates) as that of self.
type task struct {
	caller, self, target api.Address
	value                api.Word
	data                 []byte
	gas                  uint64
	depth                int
	static, creates      bool
	lent                 bool // the value is that of another call: it is not paid again
	mark                 int
}

// begin begins a task. It answers what that comes to, and true, if it ends at once; else there is a frame more.
func (m *machine) begin(t task) (api.Result, bool) {
	switch {
	case m.refuses(t):
		return api.Result{Status: api.DoneFault, Fault: api.ErrVMFunds, Gas: t.gas}, true
	case t.creates:
		return m.beginCreation(t)
	}
	return m.beginCall(t)
}

// refuses says whether a task leaves all as it is, with its gas.
func (m *machine) refuses(t task) bool {
	switch {
	case t.depth > api.MaxDepth:
		return true
	case t.creates && m.Nonce(t.caller) == last:
		return true
	}
	return !t.lent && word.Cmp(t.value, m.Balance(t.caller)) > 0
}

func (m *machine) beginCreation(t task) (api.Result, bool) {
	m.SetNonce(t.caller, m.Nonce(t.caller)+1)
	m.Touch(t.self)
	t.mark = m.Mark()
	if m.Nonce(t.self) != 0 || len(m.Code(t.self)) > 0 {
		return m.finish(t, ending{cause: api.ErrVMCollide}), true
	}
	m.SetNonce(t.self, 1)
	m.Pay(t.caller, t.self, t.value)
	code := t.data
	t.data = nil
	m.frames = append(m.frames, &frame{machine: m, task: t, code: code})
	return api.Result{}, false
}

func (m *machine) beginCall(t task) (api.Result, bool) {
	t.mark = m.Mark()
	if !t.lent {
		m.Pay(t.caller, t.self, t.value)
	}
	if cost, serve := service(t); serve != nil {
		if cost > t.gas {
			return m.finish(t, ending{cause: api.ErrVMGas}), true
		}
		t.gas -= cost
		return m.finish(t, serve(m, t)), true
	}
	code := m.Code(t.target)
	if len(code) == 0 {
		return m.finish(t, ending{cause: errDone}), true
	}
	m.frames = append(m.frames, &frame{machine: m, task: t, code: code})
	return api.Result{}, false
}

// service is what the machine does by itself in the place of code, and what that costs; nil: nothing.
func service(t task) (uint64, func(*machine, task) error) {
	size := fees.Words(uint64(len(t.data)))
	switch t.target {
	case hasher:
		return 60 + 12*size, (*machine).hash
	case copier:
		return 15 + 3*size, (*machine).copy
	case desk.Self():
		if t.self == t.target { // nobody else is the entry point by running its code
			return 5000, (*machine).visit
		}
	}
	return 0, nil
}

func (m *machine) hash(t task) error {
	return ending{out: word.Bytes(sha.Sum(t.data)), cause: errDone}
}

// copy answers new memory, as the data may be a piece of the caller's.
func (m *machine) copy(t task) error {
	out := make([]byte, len(t.data))
	copy(out, t.data)
	return ending{out: out, cause: errDone}
}

func (m *machine) visit(t task) error {
	out, is := desk.Call(m.World, m.block.Time, t.caller, t.value, t.data, t.static)
	if !is {
		return ending{cause: errReverted}
	}
	return ending{out: out, cause: errDone}
}
