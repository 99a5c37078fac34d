package foot_test

import (
	"testing"

	"quaestor/api"
	"quaestor/foot"
	"quaestor/store"
	"quaestor/trace"
	"quaestor/vm"
)

// run is the foot of what code does, by the account 7, which owns something, and with another one at 8 that does nothing.
func run(code ...byte) api.Foot {
	w := store.New([]api.Entry{
		{Addr: at(7), Account: api.Account{Balance: api.Word{100}, Code: code}},
		{Addr: at(8), Account: api.Account{Code: []byte{0}}},
	})
	_, l := vm.Call(w, api.Block{}, at(9), api.Message{From: at(9), To: at(7), Gas: 100000})
	return trace.Steps(l)
}

// TestMachine: feet of what the machine does.
func TestMachine(t *testing.T) {
	load1 := run(0x60, 1, 0x54)                                             // reads slot 1
	load2 := run(0x60, 2, 0x54)                                             // reads slot 2
	store1 := run(0x60, 5, 0x60, 1, 0x55)                                   // writes slot 1
	funds := run(0x47)                                                      // asks what it owns
	pays := run(0x5f, 0x5f, 0x5f, 0x5f, 0x60, 1, 0x60, 8, 0x61, 1, 0, 0xf1) // pays 1 to 8
	calls := run(0x5f, 0x5f, 0x5f, 0x5f, 0x5f, 0x60, 8, 0x61, 1, 0, 0xf1)   // calls 8 without paying
	for _, y := range []struct {
		name string
		a, b api.Foot
		want bool
	}{
		{"both read slot 1", load1, load1, false},
		{"slot 1 is read, and written", load1, store1, true},
		{"slot 2 is read, slot 1 written", load2, store1, false},
		{"slot 1 is written by both", store1, store1, true},
		{"it is asked for its funds, and pays", funds, pays, true},
		{"a slot is read, and it pays", load1, pays, false},
		{"a call, and a payment", calls, pays, true},
		{"two calls", calls, calls, false},
		{"two payments", pays, pays, true},
		{"both reads, and a write", foot.Union(load1, load2), store1, true},
		{"a read and a call, and another write", foot.Union(load2, calls), store1, false},
	} {
		if foot.Meets(y.a, y.b) != y.want || foot.Meets(y.b, y.a) != y.want {
			t.Errorf("%s: %v, %v: not %v", y.name, y.a, y.b, y.want)
		}
	}
	want := both(list(slot(1), whole(at(8))), list(whole(at(7)), slot(1), whole(at(8))))
	if got := foot.Union(pays, store1, load1); !equal(got, want) {
		t.Errorf("%v, want %v", got, want)
	}
	if !foot.Touches(store1, list(slot(1))) || !foot.Touches(load1, list(slot(1))) || foot.Touches(pays, list(slot(1))) || !foot.Touches(calls, list(whole(at(8)))) || foot.Touches(calls, list(whole(at(7)))) {
		t.Error("touches")
	}
}
