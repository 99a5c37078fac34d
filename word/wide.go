package word

import (
	"math/bits"

	"quaestor/api"
)

// wide is a number of 512 bits, which any product of words fits into: its parts, the lowest first.
type wide [2 * parts]uint64

// widen is a word as a wide number.
func widen(a api.Word) wide {
	var u wide
	copy(u[:], a[:])
	return u
}

// length is how many parts a number has without the noughts at its top.
func length(u []uint64) int {
	n := len(u)
	for n > 0 && u[n-1] == 0 {
		n--
	}
	return n
}

// product is all of a product.
func product(a, b api.Word) wide {
	var p wide
	for i := range parts {
		var carry uint64
		for j := range parts {
			p[i+j], carry = mulAdd(a[i], b[j], p[i+j], carry)
		}
		p[i+parts] = carry
	}
	return p
}

// mulAdd is x times y, plus two numbers: its low part, and the high one. (The greatest such sum is 2^128 - 1.)
func mulAdd(x, y, plus, more uint64) (uint64, uint64) {
	high, low := bits.Mul64(x, y)
	low, carry := bits.Add64(low, plus, 0)
	high += carry
	low, carry = bits.Add64(low, more, 0)
	return low, high + carry
}

// divide is the quotient, without what of it is 2^256 or more, and the rest; both 0, if v is. It goes as on paper, a part at a time.
func divide(u wide, v api.Word) (api.Word, api.Word) {
	n := length(v[:])
	if n == 0 {
		return api.Word{}, api.Word{}
	}
	up := bits.LeadingZeros64(v[n-1]) // with v's highest bit set, the first guess at a digit is too great by 2 at most
	v = Shl(From(uint64(up)), v)
	var rest [len(u) + 1]uint64
	for i := range len(u) {
		rest[i] |= u[i] << up
		rest[i+1] = u[i] >> (64 - up)
	}
	var q wide
	for j := length(u[:]) - n; j >= 0; j-- {
		q[j] = digit(rest[j:j+n+1], v[:n])
	}
	return api.Word(q[:parts]), Shr(From(uint64(up)), api.Word(rest[:parts]))
}

// digit is how often v goes into u, which has one part more; it leaves the rest in u.
func digit(u, v []uint64) uint64 {
	n := len(v)
	q := ^uint64(0)
	if u[n] < v[n-1] {
		q, _ = bits.Div64(u[n], u[n-1], v[n-1])
	}
	for below := takeAway(u, v, q); below; below = !giveBack(u, v) {
		q--
	}
	return q
}

// takeAway takes q times v from u, and says whether that falls below 0.
func takeAway(u, v []uint64, q uint64) bool {
	var carry, borrow, low uint64
	for i := range len(v) {
		low, carry = mulAdd(q, v[i], carry, 0)
		u[i], borrow = bits.Sub64(u[i], low, borrow)
	}
	u[len(v)], borrow = bits.Sub64(u[len(v)], carry, borrow)
	return borrow != 0
}

// giveBack adds v to u, which is below 0, and says whether it is no more.
func giveBack(u, v []uint64) bool {
	var carry uint64
	for i := range len(v) {
		u[i], carry = bits.Add64(u[i], v[i], carry)
	}
	u[len(v)], carry = bits.Add64(u[len(v)], carry, 0)
	return carry != 0
}
