package userop_test

import (
	"math/big"
	"testing"

	"quaestor/api"
	"quaestor/sample"
	"quaestor/userop"
	"quaestor/word"
)

// The functions have the signatures that the chapter lists.
var (
	_ func(api.UserOp) api.Errno                      = userop.Check
	_ func(api.UserOp) uint64                         = userop.Gas
	_ func(api.UserOp) api.Word                       = userop.Prefund
	_ func(api.UserOp, api.Word) api.Word             = userop.Price
	_ func(api.UserOp) []api.Part                     = userop.Pack
	_ func(api.UserOp, api.Word) api.Word             = userop.Hash
	_ func(api.UserOp, api.Word, api.Word) []byte     = userop.Validate
	_ func(api.UserOp, api.Word, api.Word) []byte     = userop.Sponsor
	_ func(uint64, []byte, api.Word, api.Word) []byte = userop.Post
	_ func(api.Word) api.Span                         = userop.Spans
	_ func(api.Span, uint64) bool                     = userop.Now
)

// judge holds Check of an operation against what it should be.
func judge(t *testing.T, x api.UserOp, may bool) {
	t.Helper()
	want := api.ErrOpForm
	if may {
		want = api.OK
	}
	if got := userop.Check(x); got != want {
		t.Errorf("Check(%v) = %v, want %v", x, got, want)
	}
}

func TestCheckMay(t *testing.T) {
	judge(t, api.UserOp{}, true)
	judge(t, full(), true)
	judge(t, api.UserOp{Sender: api.Address{1}, Nonce: all, HasFactory: true, HasPaymaster: true}, true)
	d := sample.Dice(1)
	for range 300 {
		judge(t, drawn(&d), true)
	}
}

// TestCheckData: how long each of the pieces may be.
func TestCheckData(t *testing.T) {
	for i, at := range pieces() {
		for _, n := range []int{0, 1, 4095, 4096, 4097, 5000, 1 << 16} {
			for _, x := range []api.UserOp{full(), {HasFactory: true, HasPaymaster: true}} {
				*at(&x) = make([]byte, n, n+10000)
				judge(t, x, n <= 4096)
			}
			x := api.UserOp{HasFactory: i == 0, HasPaymaster: i == 2}
			*at(&x) = make([]byte, n)
			judge(t, x, n <= 4096)
		}
	}
	x := full()
	for _, at := range pieces() {
		*at(&x) = make([]byte, 4096)
	}
	judge(t, x, true)
}

// TestCheckGas: how great each of the numbers may be.
func TestCheckGas(t *testing.T) {
	for _, at := range numbers() {
		for _, n := range []uint64{0, 1, 1<<20 - 1, 1 << 20, 1<<20 + 1, 1 << 21, 1 << 32, 1<<32 + 1, 1 << 63, most} {
			for _, x := range []api.UserOp{full(), {HasPaymaster: true}} {
				*at(&x) = n
				judge(t, x, n <= 1<<20)
			}
		}
	}
	x := full()
	for _, at := range numbers() {
		*at(&x) = 1 << 20
	}
	judge(t, x, true)
}

func TestCheckFees(t *testing.T) {
	edges := []api.Word{{}, {1}, {2}, {most}, {0, 1}, {most, 1<<56 - 2}, {most - 1, 1<<56 - 1}, {most, 1<<56 - 1}, {0, 1 << 56}, {1, 1 << 56}, {0, 1 << 63}, {0, 0, 1}, {0, 0, 0, 1}, {0, 0, 0, 1 << 63}, all}
	for _, fee := range edges {
		for _, tip := range edges {
			x := full()
			x.MaxFee, x.MaxTip = fee, tip
			judge(t, x, exact(fee).Cmp(power(120)) < 0 && exact(tip).Cmp(exact(fee)) <= 0)
		}
	}
	for bit := range 256 {
		x := api.UserOp{}
		x.MaxFee[bit/64] = 1 << (bit % 64)
		judge(t, x, bit < 120)
		x.MaxTip = x.MaxFee
		judge(t, x, bit < 120)
		x.MaxFee[0] ^= 1 // now one less, or one more
		judge(t, x, bit > 0 && bit < 120)
	}
}

// TestCheckStray: what an operation may not have without a factory, or without a paymaster.
func TestCheckStray(t *testing.T) {
	of := map[string][]func(*api.UserOp){
		"factory": {
			func(x *api.UserOp) { x.FactoryData = []byte{0} },
			func(x *api.UserOp) { x.FactoryData = make([]byte, 4096) },
		},
		"paymaster": {
			func(x *api.UserOp) { x.PayData = []byte{0} },
			func(x *api.UserOp) { x.PayVerifyGas = 1 },
			func(x *api.UserOp) { x.PayVerifyGas = 1 << 20 },
			func(x *api.UserOp) { x.PostGas = 1 },
			func(x *api.UserOp) { x.PostGas = 1 << 20 },
		},
	}
	for i := range 20 {
		of["factory"] = append(of["factory"], func(x *api.UserOp) { x.Factory[i] = 1 })
		of["paymaster"] = append(of["paymaster"], func(x *api.UserOp) { x.Paymaster[i] = 0x80 })
	}
	for who, l := range of {
		for i, change := range l {
			for j := range 4 {
				x := api.UserOp{Sender: api.Address{1}, HasFactory: j&1 > 0, HasPaymaster: j&2 > 0}
				change(&x)
				may := x.HasFactory
				if who == "paymaster" {
					may = x.HasPaymaster
				}
				if got := userop.Check(x) == api.OK; got != may {
					t.Errorf("%s: change %d of %v: %v", who, i, x, got)
				}
			}
		}
	}
	judge(t, api.UserOp{FactoryData: []byte{}, PayData: []byte{}}, true)
	judge(t, api.UserOp{FactoryData: make([]byte, 0, 9), PayData: make([]byte, 0, 9)}, true)
}

func TestGas(t *testing.T) {
	for i, at := range numbers() {
		x := api.UserOp{}
		for _, n := range []uint64{0, 1, 1 << 20, 1 << 63, most} {
			*at(&x) = n
			if got := userop.Gas(x); got != n {
				t.Errorf("number %d of %d: Gas is %d", i, n, got)
			}
		}
	}
	d := sample.Dice(2)
	for range 1000 {
		x, sum := full(), new(big.Int)
		for _, at := range numbers() {
			*at(&x) = d.Number()
			sum.Add(sum, new(big.Int).SetUint64(*at(&x)))
		}
		if got := userop.Gas(x); got != sum.Mod(sum, power(64)).Uint64() {
			t.Errorf("Gas(%v) = %d, want %v", x, got, sum)
		}
	}
	if got := userop.Gas(full()); got != 0x11111+0x22222+0x33333+0x44444+0x55555 {
		t.Errorf("Gas is %x", got)
	}
}

func TestPrefund(t *testing.T) {
	if x := (api.UserOp{CallGas: 1, VerifyGas: 2, PreGas: 3, MaxFee: api.Word{10}, MaxTip: api.Word{7}}); userop.Prefund(x) != (api.Word{60}) {
		t.Error("the chapter's example")
	}
	d := sample.Dice(3)
	for i := range 2000 {
		x := drawn(&d)
		switch i % 4 {
		case 0:
			x.MaxFee = d.Word()
		case 1:
			x.MaxFee, x.CallGas, x.VerifyGas, x.PreGas, x.PayVerifyGas, x.PostGas = api.Word{most, 1<<56 - 1}, 1<<20, 1<<20, 1<<20, 1<<20, 1<<20
		}
		n := new(big.Int).Mul(new(big.Int).SetUint64(userop.Gas(x)), exact(x.MaxFee))
		if i%4 > 0 && n.BitLen() > 256 {
			t.Errorf("%v: too great", x)
		}
		if got := userop.Prefund(x); got != word.Read(wide(n, 32)) {
			t.Errorf("Prefund(%v) = %v, want %v", x, got, n)
		}
	}
}

func TestPrice(t *testing.T) {
	fees := []api.Word{{}, {1}, {9}, {10}, {11}, {most}, {0, 1}, {most, 1<<56 - 1}}
	bases := append([]api.Word{{3}, {4}, {5}, {most - 9}, {0, 1 << 56}, {0, 0, 0, 1 << 63}, {most - 8, most, most, most}, {most - 9, most, most, most}, {most - 10, most, most, most}, all}, fees...)
	for _, fee := range fees {
		for _, tip := range fees {
			for _, base := range bases {
				want := new(big.Int).Add(exact(tip), exact(base))
				if want.Cmp(exact(fee)) > 0 {
					want = exact(fee)
				}
				x := full()
				x.MaxFee, x.MaxTip = fee, tip
				if got := userop.Price(x, base); got != word.Read(want.Bytes()) {
					t.Errorf("fee %v, tip %v, base %v: %v, want %v", fee, tip, base, got, want)
				}
			}
		}
	}
	d := sample.Dice(4)
	for range 2000 {
		x := api.UserOp{MaxFee: d.Word(), MaxTip: d.Word()}
		base := d.Word()
		want := new(big.Int).Add(exact(x.MaxTip), exact(base))
		if want.Cmp(exact(x.MaxFee)) > 0 {
			want = exact(x.MaxFee)
		}
		if got := userop.Price(x, base); got != word.Read(want.Bytes()) {
			t.Errorf("Price(%v, %v) = %v, want %v", x, base, got, want)
		}
	}
}
