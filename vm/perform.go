package vm

import (
	"quaestor/api"
	"quaestor/calc"
	"quaestor/code"
	"quaestor/fees"
	"quaestor/ops"
	"quaestor/word"
)

// perform does an operation that is paid for. The error is what ends the frame.
func (f *frame) perform(a *action) error {
	top := len(f.stack) - 1
	switch op := a.Op; {
	case ops.Push0 <= op && op <= ops.Push32:
		v, n := code.Push(f.code, a.at)
		f.push(v)
		f.at += n
		return nil
	case ops.Dup1 <= op && op <= ops.Dup16:
		f.push(f.stack[top-int(op-ops.Dup1)])
		return nil
	case ops.Swap1 <= op && op <= ops.Swap16:
		other := top - 1 - int(op-ops.Swap1)
		f.stack[top], f.stack[other] = f.stack[other], f.stack[top]
		return nil
	}
	f.stack = f.stack[:len(f.stack)-a.takes]
	return f.act(a)
}

// act does an operation whose words are off the stack.
func (f *frame) act(a *action) error {
	switch op := a.Op; op {
	case ops.Pop, ops.JumpDest:
	case ops.Stop, ops.Return, ops.Revert, ops.SelfDestruct:
		return f.end(a)
	case ops.Jump, ops.JumpI:
		return f.jump(a)
	case ops.CallDataCopy, ops.CodeCopy, ops.ExtCodeCopy, ops.ReturnDataCopy:
		return f.copyIn(a)
	case ops.MStore, ops.MStore8:
		b := word.Bytes(a.words[1])
		copy(a.in, b[len(b)-len(a.in):])
	case ops.SStore:
		f.set(a.words[0], a.words[1])
	case ops.Create, ops.Create2:
		f.create(a)
	case ops.Call, ops.CallCode, ops.DelegateCall, ops.StaticCall:
		f.call(a)
	default:
		if isLog(op) {
			f.Log(api.Log{Addr: f.self, Topics: a.words[2:a.takes], Data: a.in})
			return nil
		}
		f.push(f.result(a))
	}
	return nil
}

// end is how a frame ends that wants to.
func (f *frame) end(a *action) error {
	cause := errReverted
	switch a.Op {
	case ops.SelfDestruct:
		f.Pay(f.self, word.Addr(a.Arg), f.Balance(f.self))
		f.SetBalance(f.self, api.Word{}) // which it still has, if it is its own heir
		f.Kill(f.self)
		fallthrough
	case ops.Stop, ops.Return:
		cause = errDone
	}
	return f.leave(a.Op, a.in, cause)
}

func (f *frame) jump(a *action) error {
	switch to := a.words[0]; a.Op {
	case ops.JumpI:
		if a.words[1] == (api.Word{}) {
			return nil
		}
		fallthrough
	case ops.Jump:
		if !f.may(to) {
			return ending{op: a.Op, cause: api.ErrVMJump}
		}
		f.at = to[0]
	}
	return nil
}

// copyIn copies bytes into memory.
func (f *frame) copyIn(a *action) error {
	switch w := a.words; a.Op {
	case ops.CallDataCopy:
		fill(a.in, f.data, w[1])
	case ops.CodeCopy:
		fill(a.in, f.code, w[1])
	case ops.ExtCodeCopy:
		fill(a.in, f.Code(word.Addr(a.Arg)), w[2])
	case ops.ReturnDataCopy:
		end, over := word.Add(w[1], w[2])
		if over || word.Cmp(end, word.From(uint64(len(f.back)))) > 0 {
			return ending{op: a.Op, cause: api.ErrVMRange}
		}
		fill(a.in, f.back, w[1])
	}
	return nil
}

func (f *frame) set(key, v api.Word) {
	_, back := fees.Store(f.Original(f.self, key), f.Slot(f.self, key), v, false)
	f.SetSlot(f.self, key, v)
	f.Refund(back)
}

// result is what an operation pushes that changes nothing else.
func (f *frame) result(a *action) api.Word {
	op := a.Op
	if v, is := calc.Do(op, a.words[:a.takes]...); is {
		return v
	}
	switch {
	case ops.BlockHash <= op && op <= ops.BaseFee && op != ops.SelfBalance:
		return ofBlock(&f.block, op, a.words[0])
	case op == ops.Keccak256:
		return a.Value
	case op == ops.MLoad:
		return word.Read(a.in)
	}
	return f.looked(a)
}
