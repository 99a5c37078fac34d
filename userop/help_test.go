package userop_test

import (
	"math/big"
	"slices"

	"quaestor/api"
	"quaestor/sample"
	"quaestor/word"
)

const most uint64 = 1<<64 - 1

var all = api.Word{most, most, most, most}

// exact is a word as an exact number.
func exact(a api.Word) *big.Int { return new(big.Int).SetBytes(word.Bytes(a)) }

func power(n uint) *big.Int { return new(big.Int).Lsh(big.NewInt(1), n) }

// wide is an exact number in n bytes, of which the highest ones are left off if it has more.
func wide(v *big.Int, n int) []byte {
	return new(big.Int).Mod(v, power(uint(8*n))).FillBytes(make([]byte, n))
}

// count is a number in n bytes.
func count(v uint64, n int) []byte { return wide(new(big.Int).SetUint64(v), n) }

// full is an operation that has all that one may have, each thing another one.
func full() api.UserOp {
	return api.UserOp{
		Sender: api.Address{0x51, 19: 0x52}, Nonce: api.Word{1, 2, 3, 4},
		HasFactory: true, Factory: api.Address{0xfa, 19: 0xfb}, FactoryData: sample.Noise(33, 1),
		CallData: sample.Noise(70, 2), CallGas: 0x11111, VerifyGas: 0x22222, PreGas: 0x33333,
		MaxFee: api.Word{0x5555, 0x66}, MaxTip: api.Word{0x7777, 0x33},
		HasPaymaster: true, Paymaster: api.Address{0xba, 19: 0xbb}, PayVerifyGas: 0x44444, PostGas: 0x55555, PayData: sample.Noise(31, 3),
		Sig: sample.Noise(65, 4),
	}
}

// changes are all the ways in which one bit of an operation's fields may be another one, but for Sig, and the two that say what it has.
func changes() []func(*api.UserOp) {
	var l []func(*api.UserOp)
	words := []func(*api.UserOp) *api.Word{
		func(x *api.UserOp) *api.Word { return &x.Nonce },
		func(x *api.UserOp) *api.Word { return &x.MaxFee },
		func(x *api.UserOp) *api.Word { return &x.MaxTip },
	}
	for i, at := range words {
		for bit := range []int{256, 120, 120}[i] {
			l = append(l, func(x *api.UserOp) { at(x)[bit/64] ^= 1 << (bit % 64) })
		}
	}
	for _, at := range []func(*api.UserOp) *api.Address{
		func(x *api.UserOp) *api.Address { return &x.Sender },
		func(x *api.UserOp) *api.Address { return &x.Factory },
		func(x *api.UserOp) *api.Address { return &x.Paymaster },
	} {
		for bit := range 160 {
			l = append(l, func(x *api.UserOp) { at(x)[bit/8] ^= 1 << (bit % 8) })
		}
	}
	for _, at := range numbers() {
		for bit := range 64 {
			l = append(l, func(x *api.UserOp) { *at(x) ^= 1 << bit })
		}
	}
	for _, at := range pieces()[:3] {
		for bit := range 8 * 31 {
			l = append(l, func(x *api.UserOp) {
				*at(x) = slices.Clone(*at(x))
				(*at(x))[bit/8] ^= 1 << (bit % 8)
			})
		}
		l = append(l, func(x *api.UserOp) { *at(x) = append(slices.Clone(*at(x)), 0) }, func(x *api.UserOp) { *at(x) = (*at(x))[:len(*at(x))-1] })
	}
	return l
}

// numbers are where the numbers of gas stand.
func numbers() []func(*api.UserOp) *uint64 {
	return []func(*api.UserOp) *uint64{
		func(x *api.UserOp) *uint64 { return &x.CallGas },
		func(x *api.UserOp) *uint64 { return &x.VerifyGas },
		func(x *api.UserOp) *uint64 { return &x.PreGas },
		func(x *api.UserOp) *uint64 { return &x.PayVerifyGas },
		func(x *api.UserOp) *uint64 { return &x.PostGas },
	}
}

// pieces are where the pieces of data stand, Sig last.
func pieces() []func(*api.UserOp) *[]byte {
	return []func(*api.UserOp) *[]byte{
		func(x *api.UserOp) *[]byte { return &x.FactoryData },
		func(x *api.UserOp) *[]byte { return &x.CallData },
		func(x *api.UserOp) *[]byte { return &x.PayData },
		func(x *api.UserOp) *[]byte { return &x.Sig },
	}
}

// drawn is an operation without a rule, which may or may not be.
func drawn(d *sample.Dice) api.UserOp {
	x := api.UserOp{Sender: word.Addr(d.Word()), Nonce: d.Word()}
	if d.Below(2) == 0 {
		x.HasFactory, x.Factory, x.FactoryData = true, word.Addr(d.Word()), some(d)
	}
	x.CallData, x.Sig = some(d), some(d)
	x.CallGas, x.VerifyGas, x.PreGas = gas(d), gas(d), gas(d)
	x.MaxFee = word.Shr(word.From(136), d.Word())
	x.MaxTip = word.Shr(word.From(uint64(d.Below(8))), x.MaxFee)
	if d.Below(2) == 0 {
		x.HasPaymaster, x.Paymaster, x.PayVerifyGas, x.PostGas, x.PayData = true, word.Addr(d.Word()), gas(d), gas(d), some(d)
	}
	return x
}

// some is a few bytes, or none.
func some(d *sample.Dice) []byte {
	return sample.Noise(d.Below(3)*d.Below(50), d.Number())
}

// gas is a number that an operation may have.
func gas(d *sample.Dice) uint64 { return d.Number() % (1<<20 + 1) }

// roomy is the same operation, whose pieces have bytes behind their ends.
func roomy(x api.UserOp) api.UserOp {
	for _, at := range pieces() {
		n := len(*at(&x))
		*at(&x) = append(slices.Clone(*at(&x)), 0xee, 0xee, 0xee, 0xee)[:n]
	}
	return x
}

// wipe lets all that an operation's pieces have be other bytes, those behind their ends, too.
func wipe(x api.UserOp) {
	for _, at := range pieces() {
		b := *at(&x)
		for i := range b[:cap(b)] {
			b[:cap(b)][i] ^= 0xff
		}
	}
}

// equal says whether operations are.
func equal(x, y api.UserOp) bool {
	for _, at := range pieces() {
		if string(*at(&x)) != string(*at(&y)) {
			return false
		}
	}
	return x.Sender == y.Sender && x.Nonce == y.Nonce && x.HasFactory == y.HasFactory && x.Factory == y.Factory &&
		x.CallGas == y.CallGas && x.VerifyGas == y.VerifyGas && x.PreGas == y.PreGas && x.MaxFee == y.MaxFee && x.MaxTip == y.MaxTip &&
		x.HasPaymaster == y.HasPaymaster && x.Paymaster == y.Paymaster && x.PayVerifyGas == y.PayVerifyGas && x.PostGas == y.PostGas
}
