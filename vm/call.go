package vm

import (
	"quaestor/api"
	"quaestor/fees"
	"quaestor/ops"
	"quaestor/word"
)

// call begins the call that an operation asks for.
func (f *frame) call(a *action) {
	to := word.Addr(a.Arg)
	gas := fees.Keep(f.gas, a.words[0])
	f.gas -= gas
	if a.Value != (api.Word{}) {
		gas += 2300
	}
	t := task{caller: f.self, self: f.self, target: to, value: a.Value, data: a.in, gas: gas, depth: f.depth + 1, static: f.static}
	switch a.Op {
	case ops.DelegateCall:
		t.caller, t.value, t.lent = f.caller, f.value, true
	case ops.StaticCall:
		t.static = true
		fallthrough
	case ops.Call:
		t.self = to
	}
	f.enter(t, a.out)
}

// create begins the creation that an operation asks for.
func (f *frame) create(a *action) {
	gas := f.gas - f.gas/64
	f.gas -= gas
	f.enter(task{creates: true, caller: f.self, self: word.Addr(a.Arg), value: a.Value, data: a.in, gas: gas, depth: f.depth + 1}, nil)
}

// enter begins a task whose output goes to a piece of memory.
func (f *frame) enter(t task, answer []byte) {
	f.answer = answer
	if r, ended := f.begin(t); ended {
		f.receive(t, r)
	}
}

// receive takes what a task came to that this frame began.
func (f *frame) receive(t task, r api.Result) {
	f.gas += r.Gas
	f.back = r.Out
	copy(f.answer, r.Out)
	switch {
	case t.creates:
		f.push(word.Wide(r.Made))
	case r.Status == api.DoneOK:
		f.push(word.From(1))
	default:
		f.push(api.Word{})
	}
}
