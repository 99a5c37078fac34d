package code_test

import (
	"bytes"
	"math/big"
	"slices"
	"testing"

	"quaestor/api"
	"quaestor/code"
	"quaestor/sample"
)

// pushed is the word behind the operation at a place, by the library's great numbers: bytes past the end are 00.
func pushed(b []byte, pc uint64) api.Word {
	if pc >= uint64(len(b)) {
		return api.Word{}
	}
	i, n := int(pc), held(b[pc])
	taken := slices.Concat(b[i+1:], make([]byte, 32))[:n]
	var a api.Word
	for i := range a {
		x := new(big.Int).Rsh(new(big.Int).SetBytes(taken), uint(64*i))
		a[i] = x.And(x, new(big.Int).SetUint64(most)).Uint64()
	}
	return a
}

func TestPush(t *testing.T) {
	for _, x := range []struct {
		code []byte
		pc   uint64
		want api.Word
		n    uint64
	}{
		{nil, 0, api.Word{}, 0},
		{[]byte{0x61, 1}, 0, api.Word{256}, 2},
		{[]byte{0x61, 1}, 1, api.Word{}, 0},
		{[]byte{0x61, 1, 2}, 0, api.Word{258}, 2},
		{[]byte{0x61, 1, 2, 3}, 0, api.Word{258}, 2},
		{[]byte{0x61}, 0, api.Word{}, 2},
		{[]byte{0x60}, 0, api.Word{}, 1},
		{[]byte{0x60, 0xff}, 0, api.Word{255}, 1},
		{[]byte{0x60, 0x60, 0x61}, 1, api.Word{0x61}, 1}, // a place that the traversal does not come to
		{[]byte{0x5f, 0xff}, 0, api.Word{}, 0},
		{[]byte{0x5e, 0xff}, 0, api.Word{}, 0},
		{[]byte{0x80, 0xff}, 0, api.Word{}, 0},
		{[]byte{0x00, 0xff}, 0, api.Word{}, 0},
		{[]byte{0x00, 0x62, 1, 2, 3, 4}, 1, api.Word{0x010203}, 3},
		{append([]byte{0x7f}, bytes.Repeat([]byte{0xff}, 40)...), 0, api.Word{most, most, most, most}, 32},
		{[]byte{0x7f, 0x80}, 0, api.Word{0, 0, 0, 1 << 63}, 32},
		{[]byte{0x7e, 0x80}, 0, api.Word{0, 0, 0, 1 << 55}, 31},
	} {
		if got, n := code.Push(x.code, x.pc); got != x.want || n != x.n {
			t.Errorf("%x at %d: %x, %d, not %x, %d", x.code, x.pc, got, n, x.want, x.n)
		}
	}
}

// TestPushAll goes through all operations, with no bytes behind them, with too few, with as many as they have, and with more.
func TestPushAll(t *testing.T) {
	for op := range 256 {
		for n := range 36 {
			b := append([]byte{0x7f, byte(op)}, sample.Noise(n, uint64(op))...)
			if got, size := code.Push(b, 1); got != pushed(b, 1) || size != uint64(held(byte(op))) {
				t.Errorf("%x at 1: %x, %d", b, got, size)
			}
		}
	}
	for _, b := range codes() {
		for _, pc := range append([]uint64{uint64(len(b)), uint64(len(b)) + 1}, far...) {
			if got, n := code.Push(b, pc); got != (api.Word{}) || n != 0 {
				t.Errorf("%x at %d: %x, %d", b, pc, got, n)
			}
		}
	}
}
