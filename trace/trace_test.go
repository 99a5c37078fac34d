package trace_test

import (
	"slices"
	"testing"

	"quaestor/api"
	"quaestor/sample"
	"quaestor/trace"
)

// The functions have the signatures that the chapter lists.
var (
	_ func([]api.Event, api.Address, api.Word) bool = trace.Belongs
	_ func([]api.Event) []int                       = trace.Loose
	_ func([]api.Event) []int                       = trace.Starved
	_ func([]api.Event) api.Foot                    = trace.Steps
)

// TestLooseLast: an event that asks for gas, and nothing behind it.
func TestLooseLast(t *testing.T) {
	for i := range 256 {
		var want []int
		if i == 0x5a {
			want = []int{0}
		}
		if got := trace.Loose([]api.Event{{Op: byte(i)}}); !slices.Equal(got, want) {
			t.Errorf("%x: %v, want %v", i, got, want)
		}
	}
	if l := trace.Loose(nil); len(l) != 0 {
		t.Errorf("no events: %v", l)
	}
	if l := trace.Loose([]api.Event{}); len(l) != 0 {
		t.Errorf("no events: %v", l)
	}
}

// TestLooseBehind: all operations behind one that asks for gas.
func TestLooseBehind(t *testing.T) {
	for i := range 256 {
		op := byte(i)
		var want []int
		switch op {
		case 0xf1, 0xf2, 0xf4, 0xfa:
		case 0x5a:
			want = []int{0, 1}
		default:
			want = []int{0}
		}
		if got := trace.Loose([]api.Event{{Op: 0x5a}, {Op: op}}); !slices.Equal(got, want) {
			t.Errorf("%x: %v, want %v", op, got, want)
		}
	}
}

// TestLooseFrame: a call stands behind only if it is of the same frame, and done.
func TestLooseFrame(t *testing.T) {
	self := api.Address{1, 10: 7, 19: 2}
	gas := api.Event{Op: 0x5a, Depth: 3, Self: self}
	for _, op := range []byte{0xf1, 0xf2, 0xf4, 0xfa} {
		bound := func(change func(e *api.Event)) bool {
			e := api.Event{Op: op, Depth: 3, Self: self}
			change(&e)
			return len(trace.Loose([]api.Event{gas, e})) == 0
		}
		for _, depth := range []int{-3, 0, 1, 2, 4, 3 + 1<<32, 1024} {
			if bound(func(e *api.Event) { e.Depth = depth }) {
				t.Errorf("%x: depth %d counts", op, depth)
			}
		}
		for i := range self {
			if bound(func(e *api.Event) { e.Self[i] ^= 1 }) || bound(func(e *api.Event) { e.Self[i] ^= 0x80 }) {
				t.Errorf("%x: an address other in byte %d counts", op, i)
			}
		}
		for _, fault := range faults() {
			if bound(func(e *api.Event) { e.Fault = fault }) {
				t.Errorf("%x: one with the fault %d counts", op, fault)
			}
		}
		if !bound(func(e *api.Event) { e.Arg, e.Value, e.Data = all, all, []byte{1, 2, 3, 4} }) {
			t.Errorf("%x: what it calls counts", op)
		}
	}
}

// TestLooseTurns: where events stand.
func TestLooseTurns(t *testing.T) {
	gas, call, other := api.Event{Op: 0x5a}, api.Event{Op: 0xf1}, api.Event{Op: 1}
	fault := api.Event{Op: 0xf4, Fault: api.ErrVMGas}
	wrong := api.Event{Op: 0x5a, Fault: api.ErrVMGas}
	for _, x := range []struct {
		l    []api.Event
		want []int
	}{
		{[]api.Event{gas, call}, nil},
		{[]api.Event{gas, other}, []int{0}},
		{[]api.Event{call, gas}, []int{1}},
		{[]api.Event{gas, gas, call}, []int{0}},
		{[]api.Event{gas, other, call}, []int{0}},
		{[]api.Event{gas, call, gas, call, gas}, []int{4}},
		{[]api.Event{gas, fault, call}, []int{0}},
		{[]api.Event{gas, call, fault}, nil},
		{[]api.Event{wrong}, nil},
		{[]api.Event{wrong, other}, nil},
		{[]api.Event{gas, wrong}, []int{0}},
		{[]api.Event{other, gas, other, gas, gas}, []int{1, 3, 4}},
	} {
		if got := trace.Loose(x.l); !slices.Equal(got, x.want) {
			t.Errorf("%v: %v, want %v", x.l, got, x.want)
		}
	}
}

// TestStarved goes through all faults, and all operations.
func TestStarved(t *testing.T) {
	var l []api.Event
	for i := range 1 << 16 {
		l = append(l, api.Event{Op: byte(i), Depth: i, Fault: api.Errno(i)})
	}
	if got := trace.Starved(l); !slices.Equal(got, []int{130}) {
		t.Errorf("%v", got)
	}
	l = nil
	var want []int
	for i := range 256 {
		l = append(l, api.Event{Op: byte(i)}, api.Event{Op: byte(i), Fault: api.ErrVMGas}, api.Event{Op: byte(i), Fault: api.ErrVMStack})
		want = append(want, 3*i+1)
	}
	if got := trace.Starved(l); !slices.Equal(got, want) {
		t.Errorf("%v", got)
	}
	if got := trace.Starved(nil); len(got) != 0 {
		t.Errorf("no events: %v", got)
	}
	if got := trace.Starved([]api.Event{}); len(got) != 0 {
		t.Errorf("no events: %v", got)
	}
}

// TestArguments: nothing is changed, what stands behind the end of the list counts for nothing, and answers share no memory.
func TestArguments(t *testing.T) {
	d := sample.Dice(3)
	for range 300 {
		l := drawn(&d, 30)
		kept := clone(l)
		n := d.Below(len(l) + 1)
		head := slices.Clip(clone(l[:n]))
		a, slot := at(uint64(d.Below(3))), l[d.Below(len(l))].Value
		belongs, loose, starved, foot := trace.Belongs(l[:n], a, slot), trace.Loose(l[:n]), trace.Starved(l[:n]), trace.Steps(l[:n])
		if !sample.SameEvents(l, kept) {
			t.Fatal("an argument was changed")
		}
		for _, e := range l {
			clear(e.Data)
		}
		clear(l)
		if belongs != trace.Belongs(head, a, slot) || !slices.Equal(loose, trace.Loose(head)) || !slices.Equal(starved, trace.Starved(head)) || !equal(foot, trace.Steps(head)) {
			t.Fatalf("%v: what stands behind the end counts, or is kept", head)
		}
		writes := slices.Clone(foot.Writes)
		clear(foot.Reads[:cap(foot.Reads)])
		clear(loose[:cap(loose)])
		clear(starved[:cap(starved)])
		if !slices.Equal(foot.Writes, writes) || !equal(trace.Steps(head), model(head)) {
			t.Fatalf("%v: answers share memory", head)
		}
	}
}
