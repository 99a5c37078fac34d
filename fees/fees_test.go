package fees_test

import (
	"bytes"
	"math/big"
	"testing"

	"quaestor/api"
	"quaestor/fees"
	"quaestor/sample"
)

// The calls have the signatures that the chapter lists.
var (
	_ func(uint64) uint64                                      = fees.Words
	_ func(uint64) uint64                                      = fees.Memory
	_ func(byte) uint64                                        = fees.Base
	_ func(api.Word) uint64                                    = fees.Exp
	_ func(api.Word, api.Word, api.Word, bool) (uint64, int64) = fees.Store
	_ func(uint64, api.Word) uint64                            = fees.Keep
	_ func([]byte, bool) uint64                                = fees.Intrinsic
	_ func(uint64, uint64) uint64                              = fees.Back
)

const most uint64 = 1<<64 - 1

// numbers are those up to 5000, those around the powers of 2, those around the first products, and drawn ones of every length.
func numbers() []uint64 {
	var l []uint64
	for n := range uint64(5001) {
		l = append(l, n, most-n)
	}
	for i := range 64 {
		for d := range uint64(140) {
			l = append(l, 1<<i-d, 1<<i+d)
		}
	}
	d := sample.Dice(1)
	for range 5000 {
		l = append(l, d.Number()>>d.Below(64))
	}
	return l
}

func whole(n uint64) *big.Int { return new(big.Int).SetUint64(n) }

// overUp is a quotient of exact numbers, rounded up.
func overUp(n, by *big.Int) *big.Int {
	q, r := new(big.Int).QuoRem(n, by, new(big.Int))
	if r.Sign() > 0 {
		q.Add(q, big.NewInt(1))
	}
	return q
}

func over(n *big.Int, by int64) *big.Int { return new(big.Int).Quo(n, big.NewInt(by)) }

func times(n *big.Int, by *big.Int) *big.Int { return new(big.Int).Mul(n, by) }

func TestWords(t *testing.T) {
	for _, x := range []struct{ n, want uint64 }{
		{0, 0}, {1, 1}, {31, 1}, {32, 1}, {33, 2}, {64, 2}, {65, 3}, {1024, 32}, {1 << 32, 1 << 27}, {1<<32 + 1, 1<<27 + 1},
		{most, 1 << 59}, {most - 30, 1 << 59}, {most - 31, 1<<59 - 1}, {most - 32, 1<<59 - 1},
	} {
		if got := fees.Words(x.n); got != x.want {
			t.Errorf("%d: %d, not %d", x.n, got, x.want)
		}
	}
	for _, n := range numbers() {
		if got, want := fees.Words(n), overUp(whole(n), big.NewInt(32)); whole(got).Cmp(want) != 0 {
			t.Errorf("%d: %d, not %s", n, got, want)
		}
	}
}

func TestMemory(t *testing.T) {
	for _, x := range []struct{ n, want uint64 }{
		{0, 0}, {1, 3}, {32, 3}, {33, 6}, {64, 6}, {1024, 98}, {704, 66}, {736, 70}, {1 << 20, 98304 + 2097152},
		{1<<32 - 32, 3*(1<<27-1) + ((1<<27-1)*(1<<27-1))/512}, {1<<32 - 31, 3<<27 + 1<<45}, {1 << 32, 3<<27 + 1<<45},
		{1<<32 + 1, most}, {1<<32 + 32, most}, {1 << 33, most}, {1 << 37, most}, {1 << 63, most}, {most - 31, most}, {most, most},
	} {
		if got := fees.Memory(x.n); got != x.want {
			t.Errorf("%d: %d, not %d", x.n, got, x.want)
		}
	}
	for _, n := range numbers() {
		w := overUp(whole(n), big.NewInt(32))
		want := new(big.Int).Add(times(w, big.NewInt(3)), over(times(w, w), 512))
		if n > 1<<32 {
			want = whole(most)
		}
		if got := fees.Memory(n); whole(got).Cmp(want) != 0 {
			t.Errorf("%d: %d, not %s", n, got, want)
		}
	}
}

// exact is a word as an exact number.
func exact(a api.Word) *big.Int {
	n := new(big.Int)
	for i := range a {
		n.Or(n.Lsh(n, 64), whole(a[len(a)-1-i]))
	}
	return n
}

func TestExp(t *testing.T) {
	for _, x := range []struct {
		e    api.Word
		want uint64
	}{
		{api.Word{}, 0}, {api.Word{1}, 50}, {api.Word{255}, 50}, {api.Word{256}, 100}, {api.Word{65535}, 100}, {api.Word{65536}, 150},
		{api.Word{1 << 55}, 350}, {api.Word{1 << 56}, 400}, {api.Word{most}, 400}, {api.Word{0, 1}, 450}, {api.Word{0, 1 << 8}, 500},
		{api.Word{0, 0, 1}, 850}, {api.Word{7, 0, 0, 1}, 1250}, {api.Word{0, 0, 0, 1<<56 - 1}, 1550}, {api.Word{0, 0, 0, 1 << 56}, 1600},
		{api.Word{most, most, most, most}, 1600}, {api.Word{0x2000202020202020}, 400}, {api.Word{0x0a0d000900300000}, 400},
	} {
		if got := fees.Exp(x.e); got != x.want {
			t.Errorf("%x: %d, not %d", x.e, got, x.want)
		}
	}
	low := numbers()[:300]
	for i := range 256 {
		for _, n := range low {
			var e api.Word
			e[i/64] = 1 << (i % 64)
			e[0] ^= n
			if got, want := fees.Exp(e), 50*uint64(len(exact(e).Bytes())); got != want {
				t.Errorf("%x: %d, not %d", e, got, want)
			}
		}
	}
}

func TestKeep(t *testing.T) {
	for _, x := range []struct {
		left  uint64
		asked api.Word
		want  uint64
	}{
		{6400, api.Word{most, most, most, most}, 6300}, {6400, api.Word{6299}, 6299}, {6400, api.Word{6300}, 6300}, {6400, api.Word{6301}, 6300},
		{6400, api.Word{}, 0}, {6400, api.Word{1}, 1}, {6400, api.Word{0, 1}, 6300}, {6400, api.Word{0, 0, 1}, 6300}, {6400, api.Word{5, 0, 0, 1}, 6300},
		{0, api.Word{}, 0}, {0, api.Word{9}, 0}, {0, api.Word{0, 1}, 0}, {1, api.Word{9}, 1}, {63, api.Word{99}, 63}, {64, api.Word{99}, 63},
		{65, api.Word{99}, 64}, {127, api.Word{999}, 126}, {128, api.Word{999}, 126},
		{most, api.Word{most}, most - 1<<58 + 1}, {most, api.Word{0, 1}, most - 1<<58 + 1}, {most, api.Word{most - 1<<58}, most - 1<<58},
	} {
		if got := fees.Keep(x.left, x.asked); got != x.want {
			t.Errorf("%d, %x: %d, not %d", x.left, x.asked, got, x.want)
		}
	}
	for _, left := range numbers() {
		all := new(big.Int).Sub(whole(left), over(whole(left), 64))
		for _, asked := range []api.Word{{}, {left}, {left - left/64}, {left - left/64 + 1}, {left - left/64 - 1}, {left / 2}, {most - left}, {0, left}, {left, 1}, {1, 0, 1}, {0, 0, 0, 1 << 63}} {
			want := exact(asked)
			if want.Cmp(all) > 0 {
				want = all
			}
			if got := fees.Keep(left, asked); whole(got).Cmp(want) != 0 {
				t.Errorf("%d, %x: %d, not %s", left, asked, got, want)
			}
		}
	}
}

func TestIntrinsic(t *testing.T) {
	for _, x := range []struct {
		data         []byte
		call, create uint64
	}{
		{nil, 21000, 53000}, {[]byte{}, 21000, 53000}, {[]byte{0}, 21004, 53006}, {[]byte{1}, 21016, 53018}, {[]byte{0, 1}, 21020, 53022},
		{[]byte{255, 0, 0x30}, 21036, 53038}, {make([]byte, 32), 21128, 53130}, {make([]byte, 33), 21132, 53136},
		{bytes.Repeat([]byte{7}, 64), 22024, 54028}, {bytes.Repeat([]byte{0, 128}, 500), 31000, 63064},
	} {
		call, create := fees.Intrinsic(x.data, false), fees.Intrinsic(x.data, true)
		if call != x.call || create != x.create {
			t.Errorf("%x: %d and %d, not %d and %d", x.data, call, create, x.call, x.create)
		}
	}
	for b := range 256 {
		want := uint64(21000 + 16)
		if b == 0 {
			want = 21000 + 4
		}
		if got := fees.Intrinsic([]byte{byte(b)}, false); got != want {
			t.Errorf("%x: %d, not %d", b, got, want)
		}
	}
}

// TestIntrinsicArgument shows that data is counted byte by byte at all lengths, that it is neither changed nor kept, and that what stands behind its end counts for nothing.
func TestIntrinsicArgument(t *testing.T) {
	given := sample.Noise(400, 2)
	for i := range given {
		if given[i]&3 == 0 {
			given[i] = 0
		}
	}
	data := bytes.Clone(given)
	want := uint64(21000)
	for n := range len(data) + 1 {
		if got := fees.Intrinsic(data[:n], false); got != want {
			t.Errorf("%d bytes: %d, not %d", n, got, want)
		}
		if got, made := fees.Intrinsic(data[:n], true), want+32000+2*uint64((n+31)/32); got != made {
			t.Errorf("%d bytes, made: %d, not %d", n, got, made)
		}
		if !bytes.Equal(data, given) {
			t.Fatalf("%d bytes: the argument was changed", n)
		}
		clear(data)
		if got := fees.Intrinsic(data[:n], false); got != uint64(21000+4*n) {
			t.Errorf("%d bytes, of 00: %d", n, got)
		}
		copy(data, given)
		if n < len(data) && data[n] == 0 {
			want += 4
		} else {
			want += 16
		}
	}
	if got := fees.Intrinsic(bytes.Repeat([]byte{0, 9}, 1<<20), true); got != 53000+20<<20+2<<16 {
		t.Errorf("many bytes: %d", got)
	}
}

func TestBack(t *testing.T) {
	for _, x := range []struct{ used, refund, want uint64 }{
		{1000, 500, 200}, {1000, 50, 50}, {1000, 199, 199}, {1000, 200, 200}, {1000, 201, 200}, {1004, 999, 200}, {1005, 999, 201},
		{0, 0, 0}, {0, 9, 0}, {4, 9, 0}, {5, 9, 1}, {9, 0, 0}, {most, most, most / 5}, {most, 7, 7}, {7, most, 1},
	} {
		if got := fees.Back(x.used, x.refund); got != x.want {
			t.Errorf("%d, %d: %d, not %d", x.used, x.refund, got, x.want)
		}
	}
	for _, used := range numbers() {
		fifth := over(whole(used), 5)
		for _, refund := range []uint64{0, used, used / 5, used/5 + 1, used/5 - 1, most - used} {
			want := whole(refund)
			if want.Cmp(fifth) > 0 {
				want = fifth
			}
			if got := fees.Back(used, refund); whole(got).Cmp(want) != 0 {
				t.Errorf("%d, %d: %d, not %s", used, refund, got, want)
			}
		}
	}
}
