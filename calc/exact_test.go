package calc_test

import (
	"math/big"
	"testing"

	"quaestor/api"
	"quaestor/calc"
	"quaestor/sample"
	"quaestor/word"
)

var modulus = new(big.Int).Lsh(big.NewInt(1), 256)

func number(a api.Word) *big.Int { return new(big.Int).SetBytes(word.Bytes(a)) }

// signed is a signed word's number.
func signed(a api.Word) *big.Int {
	n := number(a)
	if n.Bit(255) == 1 {
		n.Sub(n, modulus)
	}
	return n
}

// wordOf is a number modulo 2^256.
func wordOf(n *big.Int) api.Word {
	return word.Read(new(big.Int).Mod(n, modulus).FillBytes(make([]byte, 32)))
}

func truth(is bool) *big.Int {
	if is {
		return big.NewInt(1)
	}
	return new(big.Int)
}

// unlessZero is an operation by a number: 0, if that is 0.
func unlessZero(do func(z, a, by *big.Int) *big.Int, a, by *big.Int) *big.Int {
	if by.Sign() == 0 {
		return new(big.Int)
	}
	return do(new(big.Int), a, by)
}

// upTo is a count, or the bound, if the count is greater.
func upTo(n api.Word, bound int64) uint {
	if v := number(n); v.Cmp(big.NewInt(bound)) < 0 {
		return uint(v.Uint64())
	}
	return uint(bound)
}

// extended is a number whose sign stands in a byte.
func extended(k, a api.Word) *big.Int {
	bits := 8*upTo(k, 31) + 8
	n := number(a)
	n.Mod(n, new(big.Int).Lsh(big.NewInt(1), bits))
	if n.Bit(int(bits)-1) == 1 {
		n.Sub(n, new(big.Int).Lsh(big.NewInt(1), bits))
	}
	return n
}

// byteOf is a byte, counted from the highest one.
func byteOf(k, a api.Word) *big.Int {
	n := upTo(k, 32)
	if n == 32 {
		return new(big.Int)
	}
	return big.NewInt(int64(word.Bytes(a)[n]))
}

// rule is an operation in the chapter's words: how many words it takes, and what it comes to, by the library's great numbers.
type rule struct {
	op    byte
	takes int
	does  func(a, b, c api.Word) *big.Int
}

// plain is a rule of two words that are numbers without a sign.
func plain(op byte, do func(a, b *big.Int) *big.Int) rule {
	return rule{op, 2, func(a, b, _ api.Word) *big.Int { return do(number(a), number(b)) }}
}

// withSign is one of two signed words.
func withSign(op byte, do func(a, b *big.Int) *big.Int) rule {
	return rule{op, 2, func(a, b, _ api.Word) *big.Int { return do(signed(a), signed(b)) }}
}

// told are the operations on words.
func told() []rule {
	zero := new(big.Int)
	return []rule{
		plain(0x01, func(a, b *big.Int) *big.Int { return new(big.Int).Add(a, b) }),
		plain(0x02, func(a, b *big.Int) *big.Int { return new(big.Int).Mul(a, b) }),
		plain(0x03, func(a, b *big.Int) *big.Int { return new(big.Int).Sub(a, b) }),
		plain(0x04, func(a, b *big.Int) *big.Int { return unlessZero((*big.Int).Quo, a, b) }),
		withSign(0x05, func(a, b *big.Int) *big.Int { return unlessZero((*big.Int).Quo, a, b) }),
		plain(0x06, func(a, b *big.Int) *big.Int { return unlessZero((*big.Int).Rem, a, b) }),
		withSign(0x07, func(a, b *big.Int) *big.Int { return unlessZero((*big.Int).Rem, a, b) }),
		{0x08, 3, func(a, b, c api.Word) *big.Int {
			return unlessZero((*big.Int).Rem, new(big.Int).Add(number(a), number(b)), number(c))
		}},
		{0x09, 3, func(a, b, c api.Word) *big.Int {
			return unlessZero((*big.Int).Rem, new(big.Int).Mul(number(a), number(b)), number(c))
		}},
		plain(0x0a, func(a, b *big.Int) *big.Int { return new(big.Int).Exp(a, b, modulus) }),
		{0x0b, 2, func(a, b, _ api.Word) *big.Int { return extended(a, b) }},
		plain(0x10, func(a, b *big.Int) *big.Int { return truth(a.Cmp(b) < 0) }),
		plain(0x11, func(a, b *big.Int) *big.Int { return truth(a.Cmp(b) > 0) }),
		withSign(0x12, func(a, b *big.Int) *big.Int { return truth(a.Cmp(b) < 0) }),
		withSign(0x13, func(a, b *big.Int) *big.Int { return truth(a.Cmp(b) > 0) }),
		plain(0x14, func(a, b *big.Int) *big.Int { return truth(a.Cmp(b) == 0) }),
		{0x15, 1, func(a, _, _ api.Word) *big.Int { return truth(number(a).Cmp(zero) == 0) }},
		plain(0x16, func(a, b *big.Int) *big.Int { return new(big.Int).And(a, b) }),
		plain(0x17, func(a, b *big.Int) *big.Int { return new(big.Int).Or(a, b) }),
		plain(0x18, func(a, b *big.Int) *big.Int { return new(big.Int).Xor(a, b) }),
		{0x19, 1, func(a, _, _ api.Word) *big.Int { return new(big.Int).Not(number(a)) }},
		{0x1a, 2, func(a, b, _ api.Word) *big.Int { return byteOf(a, b) }},
		{0x1b, 2, func(a, b, _ api.Word) *big.Int { return new(big.Int).Lsh(number(b), upTo(a, 256)) }},
		{0x1c, 2, func(a, b, _ api.Word) *big.Int { return new(big.Int).Rsh(number(b), upTo(a, 256)) }},
		{0x1d, 2, func(a, b, _ api.Word) *big.Int { return new(big.Int).Rsh(signed(b), upTo(a, 256)) }}, // Rsh rounds down
	}
}

// takes is how many words an operation of the chapter takes; 0: it is none of these.
func takes(op byte) int {
	for _, x := range told() {
		if x.op == op {
			return x.takes
		}
	}
	return 0
}

// check holds an operation against what is told of it.
func (x rule) check(t *testing.T, a, b, c api.Word) {
	t.Helper()
	args := []api.Word{a, b, c}[:x.takes]
	want := wordOf(x.does(a, b, c))
	if got, is := calc.Do(x.op, args...); got != want || !is {
		t.Fatalf("%x of %x: %x, %v, not %x", x.op, args, got, is, want)
	}
}

// few are words at the edges of operations: of signs, of counts of bytes and of bits, and of each part.
func few() []api.Word {
	l := []api.Word{
		{}, {1}, {2}, {3}, {7}, {8}, {30}, {31}, {32}, {33}, {63}, {64}, {127}, {128}, {255}, {256}, {257}, {0xabcd}, {1 << 63}, {most},
		{0, 1}, {0, 0, 1}, {0, 0, 0, 1}, {0, most}, {1, 0, 0, 1}, {31, 1}, {4, 0, 0, 1 << 63}, {5, 6, 7, 8},
		least, {1, 0, 0, 1 << 63}, {most, most, most, 1<<63 - 1},
	}
	for n := range uint64(4) {
		l = append(l, minus(n+1), minus(n+255))
	}
	return l
}

func TestDo(t *testing.T) {
	for _, x := range told() {
		for _, a := range few() {
			for _, b := range few() {
				x.check(t, a, b, api.Word{9})
			}
		}
		d := sample.Dice(x.op)
		for range 3000 {
			x.check(t, d.Word(), d.Word(), d.Word())
		}
		for range 1000 {
			x.check(t, api.Word{uint64(d.Below(260))}, d.Word(), d.Word())
		}
	}
}

// TestDoModulo goes through all edges of the operations that take three words.
func TestDoModulo(t *testing.T) {
	for _, x := range told() {
		if x.takes < 3 {
			continue
		}
		for _, a := range few() {
			for _, b := range few() {
				for _, c := range few() {
					x.check(t, a, b, c)
				}
			}
		}
	}
}

// TestDoEdges goes through all pairs of words at some edge for the operations that compare, and for those on bits.
func TestDoEdges(t *testing.T) {
	l := sample.Edges()
	for _, x := range told() {
		if x.op < 0x10 || x.op > 0x19 {
			continue
		}
		for i, a := range l {
			for j, b := range l {
				if i == j || (i+j)%3 == 0 {
					x.check(t, a, b, api.Word{})
				}
			}
		}
	}
}
