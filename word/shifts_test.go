package word_test

import (
	"math/big"
	"testing"

	"quaestor/api"
	"quaestor/sample"
	"quaestor/word"
)

// counts are shifts: all that do something, some above them, and some that a part or a sign hides.
func counts() []api.Word {
	var l []api.Word
	for n := range uint64(260) {
		l = append(l, api.Word{n})
	}
	return append(l, api.Word{1 << 32}, api.Word{1 << 63}, api.Word{most}, api.Word{1, 1}, api.Word{0, 0, 1}, api.Word{3, 0, 0, 1 << 63}, minus(1))
}

// some are words to be shifted.
func some() []api.Word {
	d := sample.Dice(5)
	l := sample.Edges()
	for range 200 {
		l = append(l, d.Word())
	}
	return l
}

func TestShifts(t *testing.T) {
	for _, n := range counts() {
		by := uint(300)
		if value(n).Cmp(big.NewInt(300)) < 0 {
			by = uint(n[0])
		}
		for _, a := range some() {
			same(t, "Shl", word.Shl(n, a), new(big.Int).Lsh(value(a), by), n, a)
			same(t, "Shr", word.Shr(n, a), new(big.Int).Rsh(value(a), by), n, a)
			same(t, "Sar", word.Sar(n, a), new(big.Int).Rsh(signed(a), by), n, a) // Rsh rounds down
		}
	}
	if word.Sar(api.Word{1}, minus(3)) != minus(2) || word.Sar(api.Word{256}, minus(3)) != minus(1) || word.Sar(api.Word{256}, api.Word{3}) != (api.Word{}) {
		t.Error("Sar")
	}
}

func TestExtend(t *testing.T) {
	for _, k := range counts() {
		for _, a := range some() {
			want := value(a)
			if value(k).Cmp(big.NewInt(31)) < 0 {
				top := uint(8*k[0] + 8)
				want.Mod(want, new(big.Int).Lsh(big.NewInt(1), top))
				if want.Bit(int(top)-1) == 1 {
					want.Sub(want, new(big.Int).Lsh(big.NewInt(1), top))
				}
			}
			same(t, "Extend", word.Extend(k, a), want, k, a)
		}
	}
	if word.Extend(api.Word{}, api.Word{0xff}) != minus(1) || word.Extend(api.Word{}, api.Word{0x17f}) != (api.Word{0x7f}) {
		t.Error("of byte 0")
	}
}

func TestByte(t *testing.T) {
	for _, k := range counts() {
		for _, a := range some() {
			want := new(big.Int)
			if value(k).Cmp(big.NewInt(32)) < 0 {
				want.SetUint64(uint64(word.Bytes(a)[k[0]]))
			}
			same(t, "Byte", word.Byte(k, a), want, k, a)
		}
	}
	if word.Byte(api.Word{31}, api.Word{0xabcd}) != (api.Word{0xcd}) || word.Byte(api.Word{30}, api.Word{0xabcd}) != (api.Word{0xab}) {
		t.Error("of abcd")
	}
}
