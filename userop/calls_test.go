package userop_test

import (
	"bytes"
	"strings"
	"testing"

	"quaestor/abi"
	"quaestor/api"
	"quaestor/hexa"
	"quaestor/sample"
	"quaestor/userop"
	"quaestor/word"
)

// heads are words one behind the other.
func heads(l ...api.Word) []byte {
	var b []byte
	for _, w := range l {
		b = append(b, word.Bytes(w)...)
	}
	return b
}

// coded is an operation behind the heads of a call, in the words of the chapters on it and on coding.
func coded(x api.UserOp) []byte {
	var front, back []byte
	for i, b := range packed(x) {
		if !dynamic()[i] {
			front = append(front, b...)
			continue
		}
		front = append(front, count(uint64(9*32+len(back)), 32)...)
		back = append(back, count(uint64(len(b)), 32)...)
		back = append(back, b...)
		back = append(back, make([]byte, (32-len(b)%32)%32)...)
	}
	return append(front, back...)
}

// checkAsk holds both questions against the chapter.
func checkAsk(t *testing.T, x api.UserOp, hash, amount api.Word) {
	t.Helper()
	want := append(heads(api.Word{96}, hash, amount), coded(x)...)
	if got := userop.Validate(x, hash, amount); !bytes.Equal(got, append([]byte{0x19, 0x82, 0x2f, 0x7c}, want...)) {
		t.Errorf("Validate(%v, %v, %v) = %x", x, hash, amount, got)
	}
	if got := userop.Sponsor(x, hash, amount); !bytes.Equal(got, append([]byte{0x52, 0xb7, 0x51, 0x2c}, want...)) {
		t.Errorf("Sponsor(%v, %v, %v) = %x", x, hash, amount, got)
	}
}

func TestAsk(t *testing.T) {
	for _, hash := range []api.Word{{}, {1}, {0, 0, 0, 1 << 63}, all} {
		for _, amount := range []api.Word{{}, {1}, {0, 0, 0, 1 << 63}, all} {
			checkAsk(t, api.UserOp{}, hash, amount)
			checkAsk(t, full(), hash, amount)
		}
	}
	d := sample.Dice(9)
	for range 500 {
		checkAsk(t, drawn(&d), d.Word(), d.Word())
	}
	for n := range 70 { // all lengths around those that fill words
		for _, at := range pieces() {
			x := full()
			*at(&x) = sample.Noise(n, 5)
			checkAsk(t, x, api.Word{1}, api.Word{2})
		}
	}
	x := full()
	for _, at := range pieces() {
		*at(&x) = sample.Noise(4096, 6)
	}
	checkAsk(t, x, all, all)
}

// TestAskKnown is one whole call, written out.
func TestAskKnown(t *testing.T) {
	x := api.UserOp{Sender: api.Address{0xaa, 19: 0xbb}, Nonce: api.Word{5}, CallData: []byte{0xca, 0x11}, CallGas: 0x100, VerifyGas: 0x200, PreGas: 0x300, MaxFee: api.Word{0x40}, MaxTip: api.Word{0x20}, Sig: []byte{0x51}}
	want := []string{
		"60",
		"1234",
		"77",
		"aa000000000000000000000000000000000000bb",
		"5",
		"120",
		"140",
		"20000000000000000000000000000000100",
		"300",
		"2000000000000000000000000000000040",
		"180",
		"1a0",
		"0",
		"2",
		"ca11" + strings.Repeat("0", 60),
		"0",
		"1",
		"51" + strings.Repeat("0", 62),
	}
	text := "0x19822f7c"
	for _, s := range want {
		text += strings.Repeat("0", 64-len(s)) + s
	}
	if got := hexa.Write(userop.Validate(x, api.Word{0x1234}, api.Word{0x77})); got != text {
		t.Errorf("%s, want %s", got, text)
	}
}

// TestPost: what a paymaster is told, with contexts of all lengths around those that fill words.
func TestPost(t *testing.T) {
	d := sample.Dice(10)
	for n := range 100 {
		for _, mode := range []uint64{0, 1, 2, 1 << 32, most} {
			context, cost, price := sample.Noise(n, 7), d.Word(), d.Word()
			want := bytes.Join([][]byte{{0x7c, 0x62, 0x7b, 0x21}, heads(api.Word{mode}, api.Word{128}, cost, price, api.Word{uint64(n)}), context, make([]byte, (32-n%32)%32)}, nil)
			got := userop.Post(mode, context, cost, price)
			if !bytes.Equal(got, want) {
				t.Errorf("Post(%d, %x, %v, %v) = %x, want %x", mode, context, cost, price, got, want)
			}
		}
	}
	for _, cost := range []api.Word{{}, {1}, all} {
		for _, price := range []api.Word{{}, {1}, all} {
			got := userop.Post(0, nil, cost, price)
			if l, errno := abi.Decode([]bool{false, true, false, false}, got[4:]); errno != api.OK || l[2].Word != cost || l[3].Word != price || len(l[1].Bytes) > 0 || len(got) != 4+5*32 {
				t.Errorf("cost %v, price %v: %x", cost, price, got)
			}
		}
	}
}

// TestPostTakesOnly: a context is neither changed nor kept, and what stands behind its end counts for nothing.
func TestPostTakesOnly(t *testing.T) {
	context := sample.Noise(100, 8)
	for n := range 100 {
		got := userop.Post(1, context[:n], api.Word{2}, api.Word{3})
		if !bytes.Equal(context, sample.Noise(100, 8)) {
			t.Fatal("the context was changed")
		}
		want := userop.Post(1, append(make([]byte, 0, n), context[:n]...), api.Word{2}, api.Word{3})
		clear(context)
		clear(userop.Post(1, context[:n], api.Word{2}, api.Word{3}))
		if !bytes.Equal(got, want) {
			t.Fatalf("%d bytes: %x, want %x", n, got, want)
		}
		copy(context, sample.Noise(100, 8))
	}
}

func TestSelectors(t *testing.T) {
	tuple := "(address,uint256,bytes,bytes,bytes32,uint256,bytes32,bytes,bytes),bytes32,uint256)"
	for _, x := range []struct {
		call []byte
		name string
	}{
		{userop.Validate(full(), api.Word{}, api.Word{}), "validateUserOp(" + tuple},
		{userop.Sponsor(full(), api.Word{}, api.Word{}), "validatePaymasterUserOp(" + tuple},
		{userop.Post(0, nil, api.Word{}, api.Word{}), "postOp(uint8,bytes,uint256,uint256)"},
	} {
		if !bytes.Equal(x.call[:4], abi.Selector(x.name)) {
			t.Errorf("%s: %x", x.name, x.call[:4])
		}
	}
}
