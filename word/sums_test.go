package word_test

import (
	"math/big"
	"testing"

	"quaestor/api"
	"quaestor/sample"
	"quaestor/word"
)

func TestSums(t *testing.T) {
	for a, b := range pairs {
		va, vb := value(a), value(b)
		sum := new(big.Int).Add(va, vb)
		got, over := word.Add(a, b)
		same(t, "Add", got, sum, a, b)
		if over != (sum.Cmp(modulus) >= 0) {
			t.Fatalf("Add %x %x: %v", a, b, over)
		}
		got, below := word.Sub(a, b)
		same(t, "Sub", got, new(big.Int).Sub(va, vb), a, b)
		if below != (va.Cmp(vb) < 0) {
			t.Fatalf("Sub %x %x: %v", a, b, below)
		}
	}
}

func TestMul(t *testing.T) {
	for a, b := range pairs {
		p := new(big.Int).Mul(value(a), value(b))
		got, over := word.Mul(a, b)
		same(t, "Mul", got, p, a, b)
		if over != (p.Cmp(modulus) >= 0) {
			t.Fatalf("Mul %x %x: %v", a, b, over)
		}
	}
}

func TestDiv(t *testing.T) {
	for a, b := range pairs {
		q, r := word.Div(a, b)
		if b == (api.Word{}) {
			if q != b || r != b {
				t.Fatalf("Div %x by 0: %x %x", a, q, r)
			}
			continue
		}
		wantQ, wantR := new(big.Int).QuoRem(value(a), value(b), new(big.Int))
		same(t, "quotient", q, wantQ, a, b)
		same(t, "rest", r, wantR, a, b)
		back, over := word.Mul(q, b)
		sum, more := word.Add(back, r)
		if sum != a || over || more {
			t.Fatalf("Div %x %x: the quotient times b, and the rest, are not a", a, b)
		}
	}
}

func TestSdiv(t *testing.T) {
	for a, b := range pairs {
		q, r := word.Sdiv(a, b)
		if b == (api.Word{}) {
			if q != b || r != b {
				t.Fatalf("Sdiv %x by 0: %x %x", a, q, r)
			}
			continue
		}
		wantQ, wantR := new(big.Int).QuoRem(signed(a), signed(b), new(big.Int))
		same(t, "signed quotient", q, wantQ, a, b)
		same(t, "signed rest", r, wantR, a, b)
	}
	least := api.Word{0, 0, 0, 1 << 63}
	if q, r := word.Sdiv(least, minus(1)); q != least || r != (api.Word{}) {
		t.Errorf("the least one by -1: %x %x", q, r)
	}
	for _, x := range [][4]api.Word{
		{minus(7), {2}, minus(3), minus(1)},
		{{7}, minus(2), minus(3), {1}},
		{minus(7), minus(2), {3}, minus(1)},
		{{7}, {2}, {3}, {1}},
		{minus(6), {2}, minus(3), {}},
	} {
		if q, r := word.Sdiv(x[0], x[1]); q != x[2] || r != x[3] {
			t.Errorf("Sdiv %x %x: %x %x", x[0], x[1], q, r)
		}
	}
}

// modular holds AddMod and MulMod against the exact results.
func modular(t *testing.T, a, b, m api.Word) {
	t.Helper()
	sum, p := new(big.Int).Add(value(a), value(b)), new(big.Int).Mul(value(a), value(b))
	if m == (api.Word{}) {
		sum, p = new(big.Int), new(big.Int)
	} else {
		sum.Mod(sum, value(m))
		p.Mod(p, value(m))
	}
	same(t, "AddMod", word.AddMod(a, b, m), sum, a, b, m)
	same(t, "MulMod", word.MulMod(a, b, m), p, a, b, m)
}

func TestModular(t *testing.T) {
	d, l := sample.Dice(3), sample.Edges()
	pick := func() api.Word { return l[d.Below(len(l))] }
	few := func() uint64 { return uint64(d.Below(3)) }
	for range 100000 {
		modular(t, pick(), pick(), pick())
		modular(t, d.Word(), d.Word(), d.Word())
		modular(t, minus(few()), minus(few()), d.Word())
	}
	for _, a := range l {
		modular(t, a, minus(1), api.Word{})
		modular(t, a, a, minus(1))
	}
	if got := word.AddMod(minus(1), api.Word{1}, api.Word{0, 0, 0, 1 << 63}); got != (api.Word{}) {
		t.Errorf("AddMod: %x", got)
	}
	if got := word.MulMod(api.Word{0, 0, 0, 1 << 63}, api.Word{2}, api.Word{3}); got != (api.Word{1}) {
		t.Errorf("MulMod: %x", got)
	}
}

func TestExp(t *testing.T) {
	d := sample.Dice(4)
	check := func(a, e api.Word) {
		t.Helper()
		same(t, "Exp", word.Exp(a, e), new(big.Int).Exp(value(a), value(e), modulus), a, e)
	}
	l := []api.Word{{}, {1}, {2}, {3}, {10}, {255}, {256}, {257}, {0, 1}, {0, 0, 1}, {0, 0, 0, 1}, {0, 0, 0, 1 << 63}, minus(1), minus(2), minus(3)}
	for _, a := range l {
		for _, e := range l {
			check(a, e)
		}
	}
	for range 1000 {
		check(d.Word(), d.Word())
	}
	if word.Exp(api.Word{}, api.Word{}) != (api.Word{1}) {
		t.Error("0 to the power of 0")
	}
}

func BenchmarkSums(b *testing.B) {
	x, y := api.Word{1, 2, 3, 4}, api.Word{5, 6, 7, 1}
	for _, c := range []struct {
		name string
		do   func()
	}{
		{"Add", func() { word.Add(x, y) }},
		{"Mul", func() { word.Mul(x, y) }},
		{"Div", func() { word.Div(x, y) }},
		{"MulMod", func() { word.MulMod(x, x, y) }},
		{"Exp", func() { word.Exp(x, y) }},
		{"Shr", func() { word.Shr(api.Word{77}, x) }},
		{"Cmp", func() { word.Cmp(x, y) }},
		{"Bytes", func() { word.Bytes(x) }},
	} {
		b.Run(c.name, func(b *testing.B) {
			for b.Loop() {
				c.do()
			}
		})
	}
}
