package trace_test

import (
	"slices"
	"strings"
	"testing"

	"quaestor/api"
	"quaestor/sample"
	"quaestor/trace"
	"quaestor/word"
)

func whole(a api.Address) api.Place { return api.Place{Addr: a, Whole: true} }

func equal(f, g api.Foot) bool {
	return slices.Equal(f.Reads, g.Reads) && slices.Equal(f.Writes, g.Writes)
}

// model is what events have read and written, in the chapter's words: found in lists, and sorted as texts.
func model(l []api.Event) api.Foot {
	var f api.Foot
	add := func(to *[]api.Place, p api.Place) {
		if !slices.Contains(*to, p) {
			*to = append(*to, p)
		}
	}
	for _, e := range l {
		if e.Fault != 0 {
			continue
		}
		b := word.Bytes(e.Arg)
		arg := whole(api.Address(b[12:]))
		if e.Op == 0x54 {
			add(&f.Reads, api.Place{Addr: e.Self, Key: e.Arg})
		}
		if e.Op == 0x55 {
			add(&f.Writes, api.Place{Addr: e.Self, Key: e.Arg})
		}
		if strings.IndexByte("\x31\x3b\x3c\x3f\xf1\xf2\xf4\xfa", e.Op) >= 0 {
			add(&f.Reads, arg)
		}
		if strings.IndexByte("\xf1\xf2\xf4\xfa", e.Op) >= 0 && e.Value != (api.Word{}) || strings.IndexByte("\xf0\xf5\xff", e.Op) >= 0 {
			add(&f.Writes, arg)
			add(&f.Writes, whole(e.Self))
		}
		if e.Op == 0x47 {
			add(&f.Reads, whole(e.Self))
		}
	}
	text := func(p api.Place) string {
		kind := "slot"
		if p.Whole {
			kind = "all"
		}
		return string(p.Addr[:]) + kind + string(word.Bytes(p.Key))
	}
	for _, l := range [][]api.Place{f.Reads, f.Writes} {
		slices.SortFunc(l, func(p, q api.Place) int { return strings.Compare(text(p), text(q)) })
	}
	return f
}

// TestStepsOf: all operations, with a value and without, and with a Fault.
func TestStepsOf(t *testing.T) {
	self, other := at(1), at(2)
	arg := api.Word{2, 0, 1 << 32, 1} // the address 2, and what is none of it
	slot := []api.Place{{Addr: self, Key: arg}}
	both := []api.Place{whole(self), whole(other)}
	for i := range 256 {
		for _, value := range []api.Word{{}, {1}, {0, 1}, {0, 0, 1}, {0, 0, 0, 1 << 63}} {
			var want api.Foot
			switch op := byte(i); op {
			case 0x54:
				want.Reads = slot
			case 0x55:
				want.Writes = slot
			case 0x31, 0x3b, 0x3c, 0x3f:
				want.Reads = both[1:]
			case 0x47:
				want.Reads = both[:1]
			case 0xf0, 0xf5, 0xff:
				want.Writes = both
			case 0xf1, 0xf2, 0xf4, 0xfa:
				want.Reads = both[1:]
				if value != (api.Word{}) {
					want.Writes = both
				}
			}
			e := api.Event{Op: byte(i), Depth: 3, Self: self, Arg: arg, Value: value, Data: []byte{1, 2, 3, 4}}
			if got := trace.Steps([]api.Event{e}); !equal(got, want) {
				t.Errorf("%x with %v: %v, want %v", i, value, got, want)
			}
			for _, fault := range faults() {
				e.Fault = fault
				if got := trace.Steps([]api.Event{e}); !equal(got, api.Foot{}) {
					t.Errorf("%x with the fault %d: %v", i, fault, got)
				}
			}
		}
	}
}

func TestStepsNone(t *testing.T) {
	for _, l := range [][]api.Event{nil, {}, {{}}, {{Op: 1}, {Op: 0x5a}, {Op: 0x20, Self: at(1), Data: make([]byte, 64)}}} {
		if f := trace.Steps(l); len(f.Reads)+len(f.Writes) != 0 {
			t.Errorf("%v: %v", l, f)
		}
	}
}

// TestStepsSelf: an account that does something to itself is told once.
func TestStepsSelf(t *testing.T) {
	a := at(7)
	for op, want := range map[byte]api.Foot{
		0xf1: {Reads: []api.Place{whole(a)}, Writes: []api.Place{whole(a)}},
		0xff: {Writes: []api.Place{whole(a)}},
		0x31: {Reads: []api.Place{whole(a)}},
		0xf0: {Writes: []api.Place{whole(a)}},
	} {
		e := api.Event{Op: op, Self: a, Arg: word.Wide(a), Value: api.Word{1}}
		if got := trace.Steps([]api.Event{e, e}); !equal(got, want) {
			t.Errorf("%x: %v, want %v", op, got, want)
		}
	}
}

// TestStepsOrder: by address, an account as a whole before its slots, slots by key; each place once in each list.
func TestStepsOrder(t *testing.T) {
	low, high := api.Address{19: 0xff}, api.Address{0x80}
	var l []api.Event
	for _, a := range []api.Address{high, low, high} {
		for _, key := range []api.Word{{0, 0, 0, 1}, {9}, {}, {0, 1}, {9}} {
			l = append(l, api.Event{Op: 0x54, Self: a, Arg: key}, api.Event{Op: 0x55, Self: a, Arg: key})
		}
		l = append(l, api.Event{Op: 0x47, Self: a}, api.Event{Op: 0xff, Self: a, Arg: word.Wide(a)})
	}
	var want []api.Place
	for _, a := range []api.Address{low, high} {
		want = append(want, whole(a), api.Place{Addr: a}, api.Place{Addr: a, Key: api.Word{9}}, api.Place{Addr: a, Key: api.Word{0, 1}}, api.Place{Addr: a, Key: api.Word{0, 0, 0, 1}})
	}
	if got := trace.Steps(l); !equal(got, api.Foot{Reads: want, Writes: want}) {
		t.Errorf("%v, want %v in both lists", got, want)
	}
}

func TestStepsDrawn(t *testing.T) {
	d := sample.Dice(5)
	for range 3000 {
		l := drawn(&d, d.Below(60))
		if got, want := trace.Steps(l), model(l); !equal(got, want) {
			t.Fatalf("%v: %v, want %v", l, got, want)
		}
	}
}

// TestStepsMany: as many events as a run can have are told without delay, and the order of their places holds.
func TestStepsMany(t *testing.T) {
	const n = 100000
	var l []api.Event
	var want []api.Place
	for i := range uint64(n) {
		l = append(l, api.Event{Op: 0x54, Arg: api.Word{n - 1 - i}})
		want = append(want, api.Place{Key: api.Word{i}})
	}
	if f := trace.Steps(l); !equal(f, api.Foot{Reads: want}) {
		t.Errorf("%d reads, %d writes", len(f.Reads), len(f.Writes))
	}
}
