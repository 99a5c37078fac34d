package userop_test

import (
	"bytes"
	"math/big"
	"slices"
	"testing"

	"quaestor/abi"
	"quaestor/api"
	"quaestor/desk"
	"quaestor/hexa"
	"quaestor/keccak"
	"quaestor/sample"
	"quaestor/userop"
	"quaestor/word"
)

// dynamic says which of the nine parts are bytes.
func dynamic() []bool { return []bool{2: true, 3: true, 7: true, 8: true} }

// shared is two numbers in one word, in the chapter's words.
func shared(high, low *big.Int) []byte {
	n := new(big.Int).Mul(high, power(128))
	return wide(n.Add(n, low), 32)
}

// packed is the bytes of the nine parts, in the chapter's words: 32 of a word, any of bytes.
func packed(x api.UserOp) [][]byte {
	l := make([][]byte, 9)
	l[0] = append(make([]byte, 12), x.Sender[:]...)
	l[1] = word.Bytes(x.Nonce)
	if x.HasFactory {
		l[2] = append(slices.Clone(x.Factory[:]), x.FactoryData...)
	}
	l[3] = x.CallData
	l[4] = shared(new(big.Int).SetUint64(x.VerifyGas), new(big.Int).SetUint64(x.CallGas))
	l[5] = count(x.PreGas, 32)
	l[6] = shared(exact(x.MaxTip), exact(x.MaxFee))
	if x.HasPaymaster {
		l[7] = bytes.Join([][]byte{x.Paymaster[:], count(x.PayVerifyGas, 16), count(x.PostGas, 16), x.PayData}, nil)
	}
	l[8] = x.Sig
	return l
}

// checkPack holds Pack of an operation against the chapter.
func checkPack(t *testing.T, x api.UserOp) {
	t.Helper()
	got, want := userop.Pack(x), packed(x)
	if len(got) != 9 {
		t.Fatalf("%d parts", len(got))
	}
	for i, p := range got {
		is := p.Dynamic == (i == 2 || i == 3 || i == 7 || i == 8)
		if p.Dynamic {
			is = is && bytes.Equal(p.Bytes, want[i]) && p.Word == api.Word{}
		} else {
			is = is && bytes.Equal(word.Bytes(p.Word), want[i]) && p.Bytes == nil
		}
		if !is {
			t.Errorf("Pack(%v): part %d is %v, want %x", x, i, p, want[i])
		}
	}
}

func TestPack(t *testing.T) {
	checkPack(t, api.UserOp{})
	checkPack(t, full())
	checkPack(t, api.UserOp{HasFactory: true, HasPaymaster: true})
	for i, change := range changes() {
		x := full()
		change(&x)
		checkPack(t, x)
		if t.Failed() {
			t.Fatalf("change %d", i)
		}
	}
	d := sample.Dice(5)
	for range 1000 {
		checkPack(t, drawn(&d))
	}
}

// TestPackWithout: without a factory and without a paymaster their parts are empty, whatever else there is of them.
func TestPackWithout(t *testing.T) {
	for i := range 4 {
		x := full()
		x.HasFactory, x.HasPaymaster = i&1 > 0, i&2 > 0
		checkPack(t, x)
		for _, at := range pieces() {
			*at(&x) = nil
		}
		checkPack(t, x)
	}
}

// TestPackGreat: what Check rejects comes out as the words say, too.
func TestPackGreat(t *testing.T) {
	for _, n := range []uint64{1<<20 + 1, 1 << 32, 1 << 63, most} {
		x := full()
		for _, at := range numbers() {
			*at(&x) = n
		}
		checkPack(t, x)
	}
	for _, fee := range []api.Word{{0, 1 << 56}, {0, most}, {0, 0, 1}, {7, 0, 1, 1}, all} {
		for _, tip := range []api.Word{{}, {1}, {0, most}, {5, 5, 1}, all} {
			x := full()
			x.MaxFee, x.MaxTip = fee, tip
			checkPack(t, x)
		}
	}
}

// hash is an operation's, in the chapter's words: all the bytes one behind the other, hashed twice.
func hash(x api.UserOp, chain api.Word) api.Word {
	var inner []byte
	for i, b := range packed(x)[:8] {
		if dynamic()[i] {
			b = word.Bytes(keccak.Sum(b))
		}
		inner = append(inner, b...)
	}
	outer := word.Bytes(keccak.Sum(inner))
	self, _ := hexa.Read("0x0000000000000000000000000000000071727de22e5e9d8baf0edac6f37da032")
	outer = append(outer, self...)
	return keccak.Sum(append(outer, word.Bytes(chain)...))
}

func TestHash(t *testing.T) {
	d := sample.Dice(6)
	for _, chain := range []api.Word{{}, {1}, {0, 0, 0, 1 << 63}, all, d.Word()} {
		for _, x := range []api.UserOp{{}, full(), {HasFactory: true, HasPaymaster: true}, drawn(&d), drawn(&d), drawn(&d)} {
			if got := userop.Hash(x, chain); got != hash(x, chain) {
				t.Errorf("Hash(%v, %v) = %v", x, chain, got)
			}
		}
	}
}

// TestHashKnown: of an operation that has nothing but its sender; its words written out.
func TestHashKnown(t *testing.T) {
	none := keccak.Sum(nil)
	inner := keccak.Join(word.Wide(api.Address{19: 7}), api.Word{}, none, none, api.Word{}, api.Word{}, api.Word{}, none)
	if got := userop.Hash(api.UserOp{Sender: api.Address{19: 7}}, api.Word{5}); got != keccak.Join(inner, word.Wide(desk.Self()), api.Word{5}) {
		t.Errorf("%v", got)
	}
}

// TestHashDistinct: each bit of an operation counts, and of the chain, but not the signature.
func TestHashDistinct(t *testing.T) {
	seen := map[api.Word]int{userop.Hash(full(), api.Word{1}): -1}
	note := func(i int, x api.UserOp, chain api.Word) {
		h := userop.Hash(x, chain)
		if j, is := seen[h]; is {
			t.Errorf("changes %d and %d have the same hash", j, i)
		}
		seen[h] = i
	}
	for i, change := range changes() {
		x := full()
		change(&x)
		note(i, x, api.Word{1})
	}
	for bit := range 256 {
		chain := api.Word{1}
		chain[bit/64] ^= 1 << (bit % 64)
		note(100000+bit, full(), chain)
	}
	for n := range 70 {
		x := full()
		x.Sig = sample.Noise(n, 9)
		if userop.Hash(x, api.Word{1}) != userop.Hash(full(), api.Word{1}) {
			t.Errorf("the signature counts")
		}
	}
	bare := full()
	bare.HasFactory, bare.Factory, bare.FactoryData = false, api.Address{}, nil
	note(-2, bare, api.Word{1})
	bare.HasPaymaster, bare.Paymaster, bare.PayData, bare.PayVerifyGas, bare.PostGas = false, api.Address{}, nil, 0, 0
	note(-3, bare, api.Word{1})
}

// unpacked is the operation that a contract sees, read from the nine parts.
func unpacked(l []api.Part) api.UserOp {
	x := api.UserOp{Sender: word.Addr(l[0].Word), Nonce: l[1].Word, CallData: l[3].Bytes, PreGas: l[5].Word[0], Sig: l[8].Bytes}
	x.VerifyGas, x.CallGas = l[4].Word[2], l[4].Word[0]
	x.MaxTip, x.MaxFee = api.Word{l[6].Word[2], l[6].Word[3]}, api.Word{l[6].Word[0], l[6].Word[1]}
	if b := l[2].Bytes; len(b) > 0 {
		x.HasFactory, x.Factory, x.FactoryData = true, api.Address(b[:20]), b[20:]
	}
	if b := l[7].Bytes; len(b) > 0 {
		x.HasPaymaster, x.Paymaster, x.PayData = true, api.Address(b[:20]), b[52:]
		x.PayVerifyGas, x.PostGas = word.Read(b[20:36])[0], word.Read(b[36:52])[0]
	}
	return x
}

// TestRoundTrip: what contracts are told of an operation can be read again.
func TestRoundTrip(t *testing.T) {
	d := sample.Dice(7)
	for i := range 500 {
		x := drawn(&d)
		if i == 0 {
			x = full()
		}
		for _, call := range [][]byte{userop.Validate(x, d.Word(), d.Word()), userop.Sponsor(x, d.Word(), d.Word())} {
			l, errno := abi.Decode(dynamic(), call[4+96:])
			if errno != api.OK || !equal(unpacked(l), x) {
				t.Errorf("%v is read as %v, %v", x, l, errno)
			}
		}
	}
}

// TestTakesOnly: operations are neither changed, nor kept, nor is there anything behind the ends of their pieces; answers share no memory.
func TestTakesOnly(t *testing.T) {
	d := sample.Dice(8)
	for i := range 200 {
		x := drawn(&d)
		if i == 0 {
			x = full()
		}
		y := roomy(x)
		parts, h, call, ask := userop.Pack(y), userop.Hash(y, api.Word{1}), userop.Validate(y, api.Word{2}, api.Word{3}), userop.Sponsor(y, api.Word{2}, api.Word{3})
		if !equal(y, x) || userop.Check(y) != userop.Check(x) {
			t.Fatal("the operation was changed")
		}
		for _, at := range pieces() {
			b := *at(&y)
			if !bytes.Equal(b[len(b):len(b)+4], []byte{0xee, 0xee, 0xee, 0xee}) {
				t.Fatal("what stands behind a piece was changed")
			}
		}
		wipe(y)
		for j, p := range parts {
			if p.Dynamic && !bytes.Equal(p.Bytes, packed(x)[j]) {
				t.Fatalf("part %d is the operation's own memory", j)
			}
			for k := range p.Bytes[:cap(p.Bytes)] {
				p.Bytes[:cap(p.Bytes)][k] = 0xdd
			}
			for k, q := range parts[j+1:] {
				if q.Dynamic && !bytes.Equal(q.Bytes, packed(x)[j+1+k]) {
					t.Fatalf("parts %d and %d share memory", j, j+1+k)
				}
			}
		}
		again := userop.Validate(x, api.Word{2}, api.Word{3})
		if h != hash(x, api.Word{1}) || !bytes.Equal(call, again) || !bytes.Equal(ask, userop.Sponsor(x, api.Word{2}, api.Word{3})) {
			t.Fatal("what stands behind a piece counts, or memory is shared")
		}
		clear(again[:cap(again)])
		if !bytes.Equal(call, userop.Validate(x, api.Word{2}, api.Word{3})) {
			t.Fatal("calls share memory")
		}
		checkPack(t, x)
	}
}
