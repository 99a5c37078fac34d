package word

import (
	"math/bits"

	"quaestor/api"
)

// Add is the sum, and whether it is too great.
func Add(a, b api.Word) (api.Word, bool) {
	var carry uint64
	for i := range parts {
		a[i], carry = bits.Add64(a[i], b[i], carry)
	}
	return a, carry != 0
}

// Sub is the difference, and whether it is below 0.
func Sub(a, b api.Word) (api.Word, bool) {
	var borrow uint64
	for i := range parts {
		a[i], borrow = bits.Sub64(a[i], b[i], borrow)
	}
	return a, borrow != 0
}

// Mul is the product, and whether it is too great.
func Mul(a, b api.Word) (api.Word, bool) {
	p := product(a, b)
	return api.Word(p[:parts]), length(p[:]) > parts
}

// Div is the quotient, and the rest; both 0, if b is.
func Div(a, b api.Word) (api.Word, api.Word) { return divide(widen(a), b) }

// Sdiv is the signed quotient, and the rest.
func Sdiv(a, b api.Word) (api.Word, api.Word) {
	signed := func(v api.Word, below bool) api.Word {
		if below {
			v, _ = Sub(api.Word{}, v)
		}
		return v
	}
	q, r := Div(signed(a, negative(a)), signed(b, negative(b)))
	return signed(q, negative(a) != negative(b)), signed(r, negative(a))
}

// AddMod is the rest of a sum.
func AddMod(a, b, m api.Word) api.Word {
	sum, over := Add(a, b)
	u := widen(sum)
	if over {
		u[parts] = 1
	}
	_, r := divide(u, m)
	return r
}

// MulMod is the rest of a product.
func MulMod(a, b, m api.Word) api.Word {
	_, r := divide(product(a, b), m)
	return r
}

// Exp is a power.
func Exp(a, e api.Word) api.Word {
	r := From(1)
	for i := range 64 * length(e[:]) {
		if e[i/64]>>(i%64)&1 == 1 {
			r, _ = Mul(r, a)
		}
		a, _ = Mul(a, a)
	}
	return r
}
