package trace_test

import (
	"slices"
	"testing"

	"quaestor/api"
	"quaestor/keccak"
	"quaestor/store"
	"quaestor/trace"
	"quaestor/vm"
	"quaestor/word"
)

// run is what code does by the account 1001 (in hexadecimal) that 1002 calls, with another one at 77 that does nothing.
func run(code []byte, gas uint64) []api.Event {
	me, caller := at(0x1001), at(0x1002)
	w := store.New([]api.Entry{
		{Addr: me, Account: api.Account{Balance: api.Word{100}, Code: code}},
		{Addr: at(0x77), Account: api.Account{Code: []byte{0x00}}},
	})
	_, l := vm.Call(w, api.Block{}, caller, api.Message{From: caller, To: me, Gas: gas})
	return l
}

// TestMachineMapping: what the machine tells of a slot of a mapping, as compilers lay it out.
func TestMachineMapping(t *testing.T) {
	l := run([]byte{
		0x33, 0x5f, 0x52, // the caller at 0 of memory
		0x60, 3, 0x60, 32, 0x52, // and the mapping's own slot behind it
		0x60, 64, 0x5f, 0x20, // the hash of both
		0x60, 2, 0x01, 0x54, // reads the word at the hash plus 2
	}, 100000)
	i := slices.IndexFunc(l, func(e api.Event) bool { return e.Op == 0x54 })
	if i < 0 {
		t.Fatalf("%v", l)
	}
	hash := keccak.Join(word.Wide(at(0x1002)), api.Word{3})
	slot, _ := word.Add(hash, api.Word{2})
	if l[i].Arg != slot || !trace.Belongs(l, at(0x1002), slot) || trace.Belongs(l, at(0x1001), slot) {
		t.Errorf("the slot %x", l[i].Arg)
	}
	if f := trace.Steps(l); !equal(f, api.Foot{Reads: []api.Place{{Addr: at(0x1001), Key: slot}}}) {
		t.Errorf("%v", f)
	}
}

// TestMachineGas: asking for gas ahead of a call, and else.
func TestMachineGas(t *testing.T) {
	call := []byte{0x5f, 0x5f, 0x5f, 0x5f, 0x60, 1, 0x60, 0x77, 0x5a, 0xf1} // pays 1
	l := run(slices.Concat(call, []byte{0x5a}, call), 100000)
	loose := trace.Loose(l)
	if len(loose) != 1 || l[loose[0]].Op != 0x5a || l[loose[0]+1].Op != 0x5f {
		t.Errorf("%v of %v", loose, l)
	}
	both := []api.Place{whole(at(0x77)), whole(at(0x1001))}
	if f := trace.Steps(l); !equal(f, api.Foot{Reads: both[:1], Writes: both}) {
		t.Errorf("%v", f)
	}
	if l := trace.Starved(l); len(l) != 0 {
		t.Errorf("starved: %v", l)
	}
}

// TestMachineStarved: one that has not enough gas for its call asks for it in vain.
func TestMachineStarved(t *testing.T) {
	l := run([]byte{0x5f, 0x5f, 0x5f, 0x5f, 0x60, 1, 0x60, 0x77, 0x5a, 0xf1}, 9000)
	last := len(l) - 1
	if got := trace.Starved(l); !slices.Equal(got, []int{last}) || l[last].Op != 0xf1 {
		t.Errorf("%v of %v", got, l)
	}
	if got := trace.Loose(l); !slices.Equal(got, []int{last - 1}) {
		t.Errorf("loose: %v of %v", got, l)
	}
	if f := trace.Steps(l); !equal(f, api.Foot{}) {
		t.Errorf("%v", f)
	}
}
