package trace_test

import (
	"math/big"
	"slices"
	"testing"

	"quaestor/api"
	"quaestor/sample"
	"quaestor/trace"
	"quaestor/word"
)

// hashed is an event of a hash of an address, as a word, and some bytes behind it.
func hashed(a api.Address, hash api.Word, behind ...byte) api.Event {
	return api.Event{Op: 0x20, Value: hash, Data: append(word.Bytes(word.Wide(a)), behind...)}
}

func TestBelongsItself(t *testing.T) {
	for _, a := range []api.Address{{}, at(5), {1}, {0xff, 19: 1}, word.Addr(all)} {
		w := word.Wide(a)
		if !trace.Belongs(nil, a, w) || !trace.Belongs([]api.Event{}, a, w) || !trace.Belongs([]api.Event{{Op: 1}, hashed(at(9), api.Word{9})}, a, w) {
			t.Errorf("%x: its own slot", a)
		}
		for bit := range 256 {
			other := w
			other[bit/64] ^= 1 << (bit % 64)
			if trace.Belongs(nil, a, other) {
				t.Errorf("%x: %x", a, other)
			}
		}
	}
}

// TestBelongsNear: how far behind the hash a slot may stand, at the edges of the parts of words, too.
func TestBelongsNear(t *testing.T) {
	a := at(5)
	var far []int64
	for n := range int64(128 + 2) {
		far = append(far, n)
	}
	far = append(far, -1, -2, -127, -128, -129, 256, 1<<32, 1<<32+1, 1<<62)
	for _, hash := range []api.Word{{1000}, {}, {most - 1}, {most - 127}, {most - 128, most}, {most, most, most}, {0, 0, 0, 1 << 63}, all, {most - 63, most, most, most}} {
		l := []api.Event{hashed(a, hash)}
		for _, n := range far {
			slot := word.Read(new(big.Int).Add(new(big.Int).SetBytes(append([]byte{1}, word.Bytes(hash)...)), big.NewInt(n)).Bytes())
			want := n >= 0 && n <= 128 || slot == word.Wide(a)
			if got := trace.Belongs(l, a, slot); got != want {
				t.Errorf("%x, and %d: %v", hash, n, got)
			}
		}
		for part := 1; part < 4; part++ {
			slot := hash
			slot[part]++
			if trace.Belongs(l, a, slot) && slot != word.Wide(a) {
				t.Errorf("%x: %x", hash, slot)
			}
		}
	}
}

// TestBelongsData: which bytes must have been hashed.
func TestBelongsData(t *testing.T) {
	a := api.Address{1, 10: 0x80, 19: 5}
	hash := api.Word{1000}
	d := append(word.Bytes(word.Wide(a)), sample.Noise(100, 1)...)
	belongs := func(data []byte) bool {
		return trace.Belongs([]api.Event{{Op: 0x20, Value: hash, Data: data}}, a, hash)
	}
	for n := range len(d) + 1 {
		if belongs(d[:n]) != (n >= 32) || belongs(slices.Clip(slices.Clone(d[:n]))) != (n >= 32) {
			t.Errorf("%d bytes: %v", n, belongs(d[:n]))
		}
	}
	for bit := range 8 * 64 {
		other := slices.Clone(d[:64])
		other[bit/8] ^= 1 << (bit % 8)
		if belongs(other) != (bit >= 8*32) {
			t.Errorf("bit %d: %v", bit, belongs(other))
		}
	}
	if belongs(a[:]) || belongs(append(make([]byte, 32), d[:32]...)) || belongs(append(append([]byte(nil), a[:]...), make([]byte, 44)...)) || belongs(nil) {
		t.Error("the address stands elsewhere")
	}
	if trace.Belongs([]api.Event{{Op: 0x20, Value: hash, Data: make([]byte, 31)}}, api.Address{}, hash) || !trace.Belongs([]api.Event{{Op: 0x20, Value: hash, Data: make([]byte, 32)}}, api.Address{}, hash) {
		t.Error("the address 0")
	}
}

// TestBelongsWhich: of all operations just one, and not with a Fault, wherever it stands, and whoever did it.
func TestBelongsWhich(t *testing.T) {
	a, hash := at(5), api.Word{1000, 7}
	e := hashed(a, hash, make([]byte, 32)...)
	for i := range 256 {
		e.Op = byte(i)
		if got := trace.Belongs([]api.Event{e}, a, hash); got != (i == 0x20) {
			t.Errorf("%x: %v", i, got)
		}
	}
	e.Op = 0x20
	for _, fault := range faults() {
		e.Fault = fault
		if trace.Belongs([]api.Event{e}, a, hash) {
			t.Errorf("fault %d", fault)
		}
	}
	e.Fault = api.OK
	e.Depth, e.Self, e.Arg = 7, at(9), all
	for i := range 5 {
		l := []api.Event{hashed(a, api.Word{1}), hashed(at(6), hash), {Op: 0x20, Value: hash}, {Op: 0x54, Arg: hash}}
		if trace.Belongs(l, a, hash) {
			t.Error("one of the others does")
		}
		if !trace.Belongs(slices.Insert(l, i, e), a, hash) {
			t.Errorf("at %d", i)
		}
	}
}

// TestBelongsDrawn holds Belongs against the chapter's words over exact numbers.
func TestBelongsDrawn(t *testing.T) {
	d := sample.Dice(4)
	counts := [2]int{}
	for range 3000 {
		l := drawn(&d, 12)
		for i := range l {
			if d.Below(3) == 0 {
				l[i].Op, l[i].Data = 0x20, append(word.Bytes(word.From(uint64(d.Below(3)))), 7, 7)[:31+d.Below(4)]
			}
		}
		a := at(uint64(d.Below(3)))
		slot, _ := word.Add(l[d.Below(len(l))].Value, word.From(uint64(d.Below(140))))
		want := slot == word.Wide(a)
		for _, e := range l {
			for n := range uint64(129) {
				sum, _ := word.Add(e.Value, word.From(n))
				want = want || e.Op == 0x20 && e.Fault == 0 && len(e.Data) >= 32 && word.Read(e.Data[:32]) == word.Wide(a) && sum == slot
			}
		}
		if got := trace.Belongs(l, a, slot); got != want {
			t.Fatalf("%v, %x, %x: %v", l, a, slot, got)
		}
		if want {
			counts[1]++
		} else {
			counts[0]++
		}
	}
	if counts[0] < 300 || counts[1] < 300 {
		t.Errorf("%v: too few of a kind", counts)
	}
}
