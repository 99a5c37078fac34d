package abi_test

import (
	"bytes"
	"encoding/hex"
	"math/big"
	"slices"
	"strings"
	"testing"

	"quaestor/abi"
	"quaestor/api"
	"quaestor/keccak"
	"quaestor/sample"
)

// The calls have the signatures that the chapter lists.
var (
	_ func([]api.Part) []byte                      = abi.Encode
	_ func([]bool, []byte) ([]api.Part, api.Errno) = abi.Decode
	_ func(string) []byte                          = abi.Selector
)

// num is a word.
func num(n uint64) api.Part { return api.Part{Word: api.Word{n}} }

// str is a byte string.
func str(s string) api.Part { return api.Part{Dynamic: true, Bytes: []byte(s)} }

// a is n letters.
func a(n int) string { return strings.Repeat("a", n) }

// same says whether two parts are the same in all fields: nil bytes and empty ones are.
func same(x, y api.Part) bool {
	return x.Dynamic == y.Dynamic && x.Word == y.Word && bytes.Equal(x.Bytes, y.Bytes)
}

// kinds says of each part whether it is a byte string.
func kinds(l []api.Part) []bool {
	var k []bool
	for _, p := range l {
		k = append(k, p.Dynamic)
	}
	return k
}

// value is a word as a number.
func value(w api.Word) *big.Int {
	v := new(big.Int)
	for _, part := range slices.Backward(w[:]) {
		v.Or(v.Lsh(v, 64), new(big.Int).SetUint64(part))
	}
	return v
}

// line is a number in 32 bytes, the highest first.
func line(n int64) string { return string(big.NewInt(n).FillBytes(make([]byte, 32))) }

// encode goes by the chapter's words: all heads, and all tails.
func encode(l []api.Part) []byte {
	var heads, tails []byte
	for _, p := range l {
		if !p.Dynamic {
			heads = append(heads, value(p.Word).FillBytes(make([]byte, 32))...)
			continue
		}
		heads = append(heads, line(int64(32*len(l)+len(tails)))...)
		tails = append(tails, line(int64(len(p.Bytes)))...)
		tails = append(tails, p.Bytes...)
		if n := len(p.Bytes) % 32; n > 0 {
			tails = append(tails, make([]byte, 32-n)...)
		}
	}
	return slices.Concat(heads, tails)
}

// text is lines of hexadecimal digits as bytes.
func text(t *testing.T, lines ...string) string {
	t.Helper()
	b, err := hex.DecodeString(strings.Join(lines, ""))
	if err != nil {
		t.Fatal(err)
	}
	return string(b)
}

const (
	hex0  = "0000000000000000000000000000000000000000000000000000000000000000"
	hex1  = "0000000000000000000000000000000000000000000000000000000000000001"
	hex4  = "0000000000000000000000000000000000000000000000000000000000000004"
	hex20 = "0000000000000000000000000000000000000000000000000000000000000020"
	hex40 = "0000000000000000000000000000000000000000000000000000000000000040"
	hex60 = "0000000000000000000000000000000000000000000000000000000000000060"
	hexA0 = "00000000000000000000000000000000000000000000000000000000000000a0"
	hexAB = "ab00000000000000000000000000000000000000000000000000000000000000"
	dave  = "6461766500000000000000000000000000000000000000000000000000000000"
	most  = "ffffffffffffffffffffffffffffffffffffffffffffffffffffffffffffffff"
	rise  = "0102030405060708090a0b0c0d0e0f101112131415161718191a1b1c1d1e1f20"
)

func TestWritten(t *testing.T) {
	for _, x := range []struct {
		name  string
		parts []api.Part
		code  string
	}{
		{"nothing", nil, ""},
		{"the chapter's", []api.Part{num(1), str("\xab")}, text(t, hex1, hex40, hex1, hexAB)},
		{"a word and bytes beside one another", []api.Part{str("dave"), num(1)}, text(t, hex40, hex1, hex4, dave)},
		{"the word 0", []api.Part{num(0)}, text(t, hex0)},
		{"the greatest word", []api.Part{{Word: api.Word{1<<64 - 1, 1<<64 - 1, 1<<64 - 1, 1<<64 - 1}}}, text(t, most)},
		{"a word of 32 bytes", []api.Part{{Word: api.Word{0x191a1b1c1d1e1f20, 0x1112131415161718, 0x090a0b0c0d0e0f10, 0x0102030405060708}}}, text(t, rise)},
		{"words", []api.Part{num(1), num(0), num(0x20)}, text(t, hex1, hex0, hex20)},
		{"no bytes", []api.Part{str("")}, text(t, hex20, hex0)},
		{"32 bytes", []api.Part{str(text(t, rise))}, text(t, hex20, hex20, rise)},
		{"no bytes, twice", []api.Part{str(""), str("")}, text(t, hex40, hex60, hex0, hex0)},
		{"two of bytes", []api.Part{num(1), str("\xab"), str("")}, text(t, hex1, hex60, hexA0, hex1, hexAB, hex0)},
		{"bytes around a word", []api.Part{str("\xab"), num(4), str("dave")}, text(t, hex60, hex4, hexA0, hex1, hexAB, hex4, dave)},
	} {
		t.Run(x.name, func(t *testing.T) { checkPair(t, x.parts, []byte(x.code)) })
	}
}

// checkPair says whether parts and bytes belong to one another.
func checkPair(t *testing.T, l []api.Part, code []byte) {
	t.Helper()
	if got := abi.Encode(l); !bytes.Equal(got, code) {
		t.Errorf("encoded as %d bytes, %x", len(got), got[:min(len(got), 200)])
	}
	got, e := abi.Decode(kinds(l), code)
	if e != api.OK || !slices.EqualFunc(got, l, same) {
		t.Errorf("decoded as %.200v, %v", got, e)
	}
}

// TestLengths has byte strings of all lengths around the multiples of 32.
func TestLengths(t *testing.T) {
	for n := range 300 {
		s := string(sample.Noise(n, uint64(n)))
		padded := s + strings.Repeat("\x00", (32-n%32)%32)
		checkPair(t, []api.Part{str(s)}, []byte(line(32)+line(int64(n))+padded))
		checkPair(t, []api.Part{str(s), num(7), str(a(1))},
			[]byte(line(96)+line(7)+line(int64(128+len(padded)))+line(int64(n))+padded+line(1)+"a"+strings.Repeat("\x00", 31)))
	}
	checkPair(t, []api.Part{str(a(0x12345)), str("b")},
		[]byte(line(64)+line(64+32+0x12360)+line(0x12345)+a(0x12345)+strings.Repeat("\x00", 27)+line(1)+"b"+strings.Repeat("\x00", 31)))
}

// TestWords has words in which one bit stands.
func TestWords(t *testing.T) {
	for i := range 256 {
		w := api.Word{}
		w[i/64] = 1 << (i % 64)
		code := make([]byte, 32)
		code[31-i/8] = 1 << (i % 8)
		checkPair(t, []api.Part{{Word: w}}, code)
		checkPair(t, []api.Part{num(5), {Word: w}, num(6)}, []byte(line(5)+string(code)+line(6)))
	}
}

// TestMany has so many parts that the heads' length takes more than a byte.
func TestMany(t *testing.T) {
	for _, n := range []int{7, 8, 9, 100, 2048, 10000} {
		var l []api.Part
		for i := range n {
			l = append(l, num(uint64(i)), str(a(i%70)))
		}
		checkPair(t, l, encode(l))
	}
}

// TestIgnored shows that each kind has one field only.
func TestIgnored(t *testing.T) {
	w := api.Part{Word: api.Word{5}, Bytes: []byte("dog")}
	s := api.Part{Dynamic: true, Word: api.Word{5}, Bytes: []byte("dog")}
	if got := abi.Encode([]api.Part{w, s}); string(got) != line(5)+line(64)+line(3)+"dog"+strings.Repeat("\x00", 29) {
		t.Errorf("%x", got)
	}
	s.Bytes = nil
	if got := abi.Encode([]api.Part{s}); string(got) != line(32)+line(0) {
		t.Errorf("a word in what has no bytes: %x", got)
	}
}

// TestEmpty shows that nil and empty are the same.
func TestEmpty(t *testing.T) {
	for _, l := range [][]api.Part{nil, {}} {
		if got := abi.Encode(l); len(got) != 0 {
			t.Errorf("%#v: %x", l, got)
		}
	}
	for _, p := range []api.Part{{Dynamic: true}, {Dynamic: true, Bytes: []byte{}}} {
		if got := abi.Encode([]api.Part{p}); string(got) != line(32)+line(0) {
			t.Errorf("%#v: %x", p, got)
		}
	}
	for _, dynamic := range [][]bool{nil, {}} {
		for _, b := range [][]byte{nil, {}, {1}, make([]byte, 31), make([]byte, 100)} {
			if l, e := abi.Decode(dynamic, b); e != api.OK || len(l) != 0 {
				t.Errorf("no parts in %d bytes: %v, %v", len(b), l, e)
			}
		}
	}
	for _, b := range [][]byte{nil, {}} {
		for _, d := range []bool{false, true} {
			if l, e := abi.Decode([]bool{d}, b); e != api.ErrAbiForm || l != nil {
				t.Errorf("a part in nothing: %v, %v", l, e)
			}
		}
	}
}

func TestSelector(t *testing.T) {
	for _, x := range []struct{ name, code string }{
		{"balanceOf(address)", "70a08231"},
		{"transfer(address,uint256)", "a9059cbb"},
		{"approve(address,uint256)", "095ea7b3"},
		{"depositTo(address)", "b760faf9"},
		{"baz(uint32,bool)", "cdcd77c0"},
		{"sam(bytes,bool,uint256[])", "a5643bf2"},
		{"", "c5d24601"},
	} {
		if got := abi.Selector(x.name); hex.EncodeToString(got) != x.code {
			t.Errorf("%s: %x, not %s", x.name, got, x.code)
		}
	}
	for n := range 300 {
		name := sample.Noise(n, uint64(n)) // most are no text, which counts for nothing
		sum := value(keccak.Sum(name)).FillBytes(make([]byte, 32))
		if got := abi.Selector(string(name)); !bytes.Equal(got, sum[:4]) {
			t.Errorf("%d bytes: %x, not %x", n, got, sum[:4])
		}
	}
	first := abi.Selector("a()")
	kept := bytes.Clone(first)
	second := abi.Selector("a()")
	clear(first[:cap(first)])
	if !bytes.Equal(second, kept) || !bytes.Equal(abi.Selector("a()"), kept) {
		t.Error("the answers share their memory")
	}
}
