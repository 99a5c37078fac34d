package word_test

import (
	"bytes"
	"math/big"
	"testing"

	"quaestor/api"
	"quaestor/sample"
	"quaestor/word"
)

// The calls have the signatures that the chapter lists.
var (
	_       func(uint64) api.Word                         = word.From
	_       func(api.Word) []byte                         = word.Bytes
	_       func([]byte) api.Word                         = word.Read
	_       func(api.Word) (uint64, bool)                 = word.Small
	_       func(api.Word) api.Address                    = word.Addr
	_       func(api.Address) api.Word                    = word.Wide
	_, _    func(api.Word, api.Word) int                  = word.Cmp, word.Scmp
	_, _, _ func(api.Word, api.Word) (api.Word, bool)     = word.Add, word.Sub, word.Mul
	_, _    func(api.Word, api.Word) (api.Word, api.Word) = word.Div, word.Sdiv
	_, _    func(api.Word, api.Word, api.Word) api.Word   = word.AddMod, word.MulMod
	_, _, _ func(api.Word, api.Word) api.Word             = word.Exp, word.Extend, word.Byte
	_, _, _ func(api.Word, api.Word) api.Word             = word.Shl, word.Shr, word.Sar
	modulus                                               = new(big.Int).Lsh(big.NewInt(1), 256)
	half                                                  = new(big.Int).Lsh(big.NewInt(1), 255)
	most    uint64                                        = 1<<64 - 1
)

// value is the number that the chapter says that a word has.
func value(a api.Word) *big.Int {
	v := new(big.Int)
	for i := 3; i >= 0; i-- {
		v.Lsh(v, 64)
		v.Add(v, new(big.Int).SetUint64(a[i]))
	}
	return v
}

// signed is that of a signed word.
func signed(a api.Word) *big.Int {
	v := value(a)
	if v.Cmp(half) >= 0 {
		v.Sub(v, modulus)
	}
	return v
}

// toWord is a number modulo 2^256.
func toWord(v *big.Int) api.Word {
	v = new(big.Int).Mod(v, modulus)
	low := new(big.Int).SetUint64(most)
	var a api.Word
	for i := range a {
		a[i] = new(big.Int).And(v, low).Uint64()
		v.Rsh(v, 64)
	}
	return a
}

func minus(n uint64) api.Word { return api.Word{-n, most, most, most} }

// pairs are pairs of words: many at the edges, and many without a rule.
func pairs(yield func(a, b api.Word) bool) {
	l := sample.Edges()
	for _, a := range l {
		for _, b := range l {
			if !yield(a, b) {
				return
			}
		}
	}
	d := sample.Dice(1)
	for range 100000 {
		if !yield(d.Word(), d.Word()) {
			return
		}
	}
}

func same(t *testing.T, name string, got api.Word, want *big.Int, args ...api.Word) {
	t.Helper()
	if got != toWord(want) {
		t.Fatalf("%s %x: %x, not %x", name, args, got, toWord(want))
	}
}

func TestFrom(t *testing.T) {
	for _, n := range []uint64{0, 1, 255, 1 << 63, most} {
		if got := word.From(n); got != (api.Word{n}) {
			t.Errorf("From(%d): %x", n, got)
		}
	}
}

func TestBytes(t *testing.T) {
	a := api.Word{0x191a1b1c1d1e1f20, 0x1112131415161718, 0x090a0b0c0d0e0f10, 0x0102030405060708}
	b := word.Bytes(a)
	if len(b) != 32 {
		t.Fatalf("%d bytes", len(b))
	}
	for i, x := range b {
		if int(x) != i+1 {
			t.Errorf("byte %d: %x", i, x)
		}
	}
	b[0] = 99
	if again := word.Bytes(a); again[0] != 1 {
		t.Error("answers share memory")
	}
	if b := word.Bytes(api.Word{}); !bytes.Equal(b, make([]byte, 32)) {
		t.Errorf("of 0: %x", b)
	}
}

func TestRead(t *testing.T) {
	long := make([]byte, 70)
	for i := range long {
		long[i] = byte(3*i + 1)
	}
	for n := range len(long) + 1 {
		kept := bytes.Clone(long)
		same(t, "Read", word.Read(long[:n]), new(big.Int).SetBytes(long[:n]))
		if !bytes.Equal(long, kept) {
			t.Fatal("the argument was changed")
		}
	}
	if word.Read(nil) != (api.Word{}) || word.Read([]byte{}) != (api.Word{}) {
		t.Error("of no bytes")
	}
	if word.Read([]byte{1, 0}) != (api.Word{256}) {
		t.Error("of 1, 0")
	}
}

func TestRoundTrips(t *testing.T) {
	d := sample.Dice(2)
	l := sample.Edges()
	for range 2000 {
		l = append(l, d.Word())
	}
	for _, a := range l {
		b := word.Bytes(a)
		if word.Read(b) != a {
			t.Errorf("Read of Bytes of %x", a)
		}
		if !bytes.Equal(b, value(a).FillBytes(make([]byte, 32))) {
			t.Errorf("Bytes of %x: %x", a, b)
		}
		who := word.Addr(a)
		if !bytes.Equal(who[:], b[12:]) {
			t.Errorf("Addr of %x: %x", a, who)
		}
		if word.Addr(word.Wide(who)) != who {
			t.Errorf("Addr of Wide of %x", who)
		}
		same(t, "Wide", word.Wide(who), new(big.Int).SetBytes(b[12:]))
	}
}

func TestSmall(t *testing.T) {
	for _, n := range []uint64{0, 1, most} {
		if got, ok := word.Small(api.Word{n}); got != n || !ok {
			t.Errorf("%d: %d %v", n, got, ok)
		}
	}
	for _, a := range []api.Word{{5, 1}, {5, 0, 1}, {5, 0, 0, 1}, {0, 1}, minus(1)} {
		if got, ok := word.Small(a); got != 0 || ok {
			t.Errorf("%x: %d %v", a, got, ok)
		}
	}
}

func TestCompare(t *testing.T) {
	for a, b := range pairs {
		if got, want := word.Cmp(a, b), value(a).Cmp(value(b)); got != want {
			t.Fatalf("Cmp %x %x: %d", a, b, got)
		}
		if got, want := word.Scmp(a, b), signed(a).Cmp(signed(b)); got != want {
			t.Fatalf("Scmp %x %x: %d", a, b, got)
		}
	}
}
