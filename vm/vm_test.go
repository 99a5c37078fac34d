package vm_test

import (
	"bytes"
	"encoding/hex"
	"testing"

	"quaestor/api"
	"quaestor/keccak"
	"quaestor/sample"
	"quaestor/store"
	"quaestor/vm"
	"quaestor/word"
)

// The functions have the signatures that the chapter lists.
var (
	_ func(*store.World, api.Block, api.Address, api.Message) (api.Result, []api.Event)     = vm.Call
	_ func(*store.World, api.Block, api.Message) (api.Result, []api.Log, uint64, api.Errno) = vm.Send
	_ func(api.Address, uint64) api.Address                                                 = vm.Made
	_ func(api.Address, api.Word, []byte) api.Address                                       = vm.Made2
)

// hexAddress is an address of forty digits.
func hexAddress(t *testing.T, s string) api.Address {
	t.Helper()
	b, err := hex.DecodeString(s)
	if err != nil || len(b) != 20 {
		t.Fatal(s)
	}
	return api.Address(b)
}

// TestMade: addresses that are known of Ethereum.
func TestMade(t *testing.T) {
	a := hexAddress(t, "6ac7ea33f8831ea9dcc53393aaa88b25a785dbf0")
	for nonce, want := range []string{
		"cd234a471b72ba2f1ccf0a70fcaba648a5eecd8d", "343c43a37d37dff08ae8c4a11544c718abb4fcf8",
		"f778b86fa74e846c4f0a1fbd1335fe81c00a0c91", "fffd933a0bc612844eaf0c6fe3e5b8e9b6c1d19c",
	} {
		if got := vm.Made(a, uint64(nonce)); got != hexAddress(t, want) {
			t.Errorf("nonce %d: %x, want %s", nonce, got, want)
		}
	}
}

// TestMadeBytes: the bytes that are hashed, at all lengths of a nonce.
func TestMadeBytes(t *testing.T) {
	for _, x := range []struct {
		nonce uint64
		list  string // behind the head
	}{
		{0, "80"}, {1, "01"}, {0x7f, "7f"}, {0x80, "8180"}, {0xff, "81ff"}, {0x100, "820100"}, {0xffff, "82ffff"}, {1 << 16, "83010000"},
		{1 << 24, "8401000000"}, {1 << 32, "850100000000"}, {1 << 40, "86010000000000"}, {1 << 48, "8701000000000000"}, {most, "88ffffffffffffffff"},
	} {
		rest, _ := hex.DecodeString(x.list)
		for i := range byte(5) {
			a := api.Address{i, 19: 7 * i}
			b := append([]byte{byte(0xc0 + 21 + len(rest)), 0x94}, a[:]...)
			if got, want := vm.Made(a, x.nonce), word.Addr(keccak.Sum(append(b, rest...))); got != want {
				t.Errorf("%x, nonce %d: %x, want %x", a, x.nonce, got, want)
			}
		}
	}
}

// TestMade2: the examples of Ethereum's EIP 1014.
func TestMade2(t *testing.T) {
	const none = "0000000000000000000000000000000000000000"
	for _, x := range []struct{ a, salt, code, want string }{
		{none, "00", "00", "4d1a2e2bb4f88f0250f26ffff098b0b30b26bf38"},
		{"deadbeef00000000000000000000000000000000", "00", "00", "b928f69bb1d91cd65274e3c79d8986362984fda3"},
		{"deadbeef00000000000000000000000000000000", "feed000000000000000000000000000000000000", "00", "d04116cdd17bebe565eb2422f2497e06cc1c9833"},
		{none, "00", "deadbeef", "70f2b2914a2a4b783faefb75f459a580616fcb5e"},
		{"00000000000000000000000000000000deadbeef", "cafebabe", "deadbeef", "60f3f640a8508fc6a86d45df051962668e1e8ac7"},
		{none, "00", "", "e33c0c7f7df4809055c3eba6c09cfe4baf1bd9e0"},
	} {
		salt, _ := hex.DecodeString(x.salt)
		code, _ := hex.DecodeString(x.code)
		if got := vm.Made2(hexAddress(t, x.a), word.Read(salt), code); got != hexAddress(t, x.want) {
			t.Errorf("%s, %s, %s: %x, want %s", x.a, x.salt, x.code, got, x.want)
		}
	}
	a, salt := at(3), api.Word{1, 2, 3, 4}
	for n := range 300 {
		code := sample.Noise(n+1, uint64(n))
		b := append([]byte{0xff}, a[:]...)
		b = append(append(b, word.Bytes(salt)...), word.Bytes(keccak.Sum(code[:n]))...)
		kept := bytes.Clone(code)
		if got, want := vm.Made2(a, salt, code[:n]), word.Addr(keccak.Sum(b)); got != want || !bytes.Equal(code, kept) {
			t.Errorf("%d bytes: %x, want %x", n, got, want)
		}
	}
}

// TestExamples: those of the chapter.
func TestExamples(t *testing.T) {
	r, _, _ := run("#60056003016000526020 #6000f3", 100)
	if !sameResult(r, api.Result{Status: api.DoneOK, Gas: 76, Out: word.Bytes(word.From(8))}) {
		t.Errorf("%v", r)
	}
	for _, gas := range []uint64{0, 1, 100, enough} {
		if e := faultOf(t, "#fe", gas); e != api.ErrVMOp {
			t.Errorf("%d gas: %v", gas, e)
		}
	}
	for gas := range uint64(300) {
		if e := faultOf(t, "#5b600056", gas); e != api.ErrVMGas {
			t.Errorf("%d gas: %v", gas, e)
		}
	}
}

// TestMostGas: a message may have 2^40 gas; with more nothing happens.
func TestMostGas(t *testing.T) {
	for _, x := range []struct {
		gas  uint64
		want api.Result
	}{
		{1 << 40, api.Result{Status: api.DoneOK, Gas: 1<<40 - 3 - 3 - 22100}},
		{1<<40 + 1, api.Result{Status: api.DoneFault, Fault: api.ErrVMGas}},
		{most, api.Result{Status: api.DoneFault, Fault: api.ErrVMGas}},
	} {
		for _, create := range []bool{false, true} {
			m := plain(x.gas)
			m.Create, m.Data = create, assemble("1 0 SSTORE")
			w := worldOf("1 0 SSTORE")
			r, l := vm.Call(w, block(), caller, m)
			if create && r.Status == api.DoneOK {
				x.want.Made = vm.Made(caller, 0)
			}
			if !sameResult(r, x.want) {
				t.Errorf("%d gas, creation %v: %v, want %v", x.gas, create, r, x.want)
			}
			if x.want.Status != api.DoneOK && (len(l) > 0 || !sample.SameEntries(w.Entries(), worldOf("1 0 SSTORE").Entries())) {
				t.Errorf("%d gas, creation %v: %v, %v", x.gas, create, l, w.Entries())
			}
		}
	}
}
