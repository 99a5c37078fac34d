package trace_test

import (
	"quaestor/api"
	"quaestor/sample"
	"quaestor/word"
)

const most uint64 = 1<<64 - 1

var all = api.Word{most, most, most, most}

// at is an address that is a small number.
func at(n uint64) api.Address { return word.Addr(word.From(n)) }

// faults are what an event may end a frame with.
func faults() []api.Errno {
	return []api.Errno{api.ErrArg, api.ErrVMGas, api.ErrVMStack, api.ErrVMJump, api.ErrVMOp, api.ErrVMStatic, api.ErrVMRange, api.ErrVMFunds, api.ErrVMCode, api.ErrVMCollide, 2, 1 << 15, 1<<16 - 1}
}

// drawn are events without a rule, among which the operations that matter are many.
func drawn(d *sample.Dice, n int) []api.Event {
	matter := []byte{0x20, 0x31, 0x3b, 0x3c, 0x3f, 0x47, 0x54, 0x55, 0x5a, 0x5a, 0x5a, 0xf0, 0xf1, 0xf2, 0xf4, 0xf5, 0xfa, 0xff}
	words := []api.Word{{}, {1}, {2}, {1, 0, 1 << 32}, {1, 0, 1 << 31}, all, d.Word()}
	var l []api.Event
	for range n {
		e := api.Event{Op: matter[d.Below(len(matter))], Depth: d.Below(2), Self: at(uint64(d.Below(2))), Arg: words[d.Below(len(words))]}
		if d.Below(2) == 0 {
			e.Value = words[d.Below(len(words))]
		}
		if d.Below(3) == 0 {
			e.Data = append(word.Bytes(word.From(uint64(d.Below(3)))), 7, 7)[:30+d.Below(5)]
		}
		if d.Below(6) == 0 {
			e.Fault = faults()[d.Below(3)]
		}
		if d.Below(6) == 0 {
			e.Op = byte(d.Below(256))
		}
		l = append(l, e)
	}
	return l
}

// clone is the same, with memory of its own.
func clone(l []api.Event) []api.Event {
	var c []api.Event
	for _, e := range l {
		e.Data = append([]byte(nil), e.Data...)
		c = append(c, e)
	}
	return c
}
