package rlp_test

import (
	"bytes"
	"encoding/binary"
	"math"
	"reflect"
	"slices"
	"strings"
	"testing"

	"quaestor/api"
	"quaestor/rlp"
)

// The calls have the signatures that the chapter lists.
var (
	_ func(api.Item) []byte              = rlp.Encode
	_ func([]byte) (api.Item, api.Errno) = rlp.Decode
	_ func(uint64) api.Item              = rlp.Number
)

// str is a string.
func str(s string) api.Item { return api.Item{Bytes: []byte(s)} }

// of is a list.
func of(kids ...api.Item) api.Item { return api.Item{List: true, Kids: kids} }

// nest is an item in n lists.
func nest(n int, x api.Item) api.Item {
	for range n {
		x = of(x)
	}
	return x
}

// same says whether two items are the same: nil lists and empty ones are.
func same(x, y api.Item) bool {
	return x.List == y.List && bytes.Equal(x.Bytes, y.Bytes) && slices.EqualFunc(x.Kids, y.Kids, same)
}

// a is n letters.
func a(n int) string { return strings.Repeat("a", n) }

// pairs are items with their bytes, written out.
func pairs() []struct {
	item api.Item
	code string
} {
	lorem := "Lorem ipsum dolor sit amet, consectetur adipisicing elit"
	return []struct {
		item api.Item
		code string
	}{
		{str("dog"), "\x83dog"},
		{of(str("cat"), str("dog")), "\xc8\x83cat\x83dog"},
		{str(""), "\x80"},
		{of(), "\xc0"},
		{rlp.Number(0), "\x80"},
		{rlp.Number(15), "\x0f"},
		{rlp.Number(1024), "\x82\x04\x00"},
		{of(of(), of(of()), of(of(), of(of()))), "\xc7\xc0\xc1\xc0\xc3\xc0\xc1\xc0"},
		{str(lorem), "\xb8\x38" + lorem},
		{str("\x00"), "\x00"},
		{str("\x7f"), "\x7f"},
		{str("\x80"), "\x81\x80"},
		{str("\xff"), "\x81\xff"},
		{str("\x00\x00"), "\x82\x00\x00"},
		{of(str("\x00")), "\xc1\x00"},
		{of(str("\x80")), "\xc2\x81\x80"},
		{of(str("")), "\xc1\x80"},
		{of(str("a"), of()), "\xc2a\xc0"},
		{str(a(54)), "\xb6" + a(54)},
		{str(a(55)), "\xb7" + a(55)},
		{str(a(56)), "\xb8\x38" + a(56)},
		{str(a(255)), "\xb8\xff" + a(255)},
		{str(a(256)), "\xb9\x01\x00" + a(256)},
		{str(a(0xffff)), "\xb9\xff\xff" + a(0xffff)},
		{str(a(0x10000)), "\xba\x01\x00\x00" + a(0x10000)},
		{str(a(0xffffff)), "\xba\xff\xff\xff" + a(0xffffff)},
		{str(a(0x1000000)), "\xbb\x01\x00\x00\x00" + a(0x1000000)},
		{of(str(a(54))), "\xf7\xb6" + a(54)},
		{of(str(a(55))), "\xf8\x38\xb7" + a(55)},
		{of(str("a"), str(a(53))), "\xf7a\xb5" + a(53)},
		{of(str(a(54)), str("a")), "\xf8\x38\xb6" + a(54) + "a"},
		{of(str(a(253))), "\xf8\xff\xb8\xfd" + a(253)},
		{of(str(a(254))), "\xf9\x01\x00\xb8\xfe" + a(254)},
		{of(str(a(0xfffc))), "\xf9\xff\xff\xb9\xff\xfc" + a(0xfffc)},
		{of(str(a(0xfffd))), "\xfa\x01\x00\x00\xb9\xff\xfd" + a(0xfffd)},
		{of(of(str(a(54))), str("b")), "\xf8\x39\xf7\xb6" + a(54) + "b"},
	}
}

func TestPairs(t *testing.T) {
	for _, x := range pairs() {
		head := x.code[:min(len(x.code), 10)]
		if got := rlp.Encode(x.item); string(got) != x.code {
			t.Errorf("%x..: encoded as %x.., %d bytes", head, got[:min(len(got), 10)], len(got))
		}
		got, e := rlp.Decode([]byte(x.code))
		if e != api.OK || !same(got, x.item) {
			t.Errorf("%x..: decoded as %.60v, %v", head, got, e)
		}
		checkFields(t, got)
	}
}

// TestManyKids has lists whose length comes from many short kids.
func TestManyKids(t *testing.T) {
	for _, n := range []int{0, 1, 55, 56, 255, 256, 70000} {
		x := of(slices.Repeat([]api.Item{str("a")}, n)...)
		b := rlp.Encode(x)
		if !bytes.Equal(b, encode(x)) {
			t.Errorf("%d kids: encoded as %x..", n, b[:min(len(b), 10)])
		}
		if y, e := rlp.Decode(b); e != api.OK || !same(x, y) {
			t.Errorf("%d kids: decoded as %.60v, %v", n, y, e)
		}
	}
}

// TestIgnored shows that each kind has one field only.
func TestIgnored(t *testing.T) {
	x := str("dog")
	x.Kids = []api.Item{str("cat")}
	if got := rlp.Encode(x); string(got) != "\x83dog" {
		t.Errorf("a string with kids: %x", got)
	}
	x.Bytes = nil
	if got := rlp.Encode(x); string(got) != "\x80" {
		t.Errorf("an empty string with kids: %x", got)
	}
	x = of(str("cat"))
	x.Bytes = []byte("dog")
	if got := rlp.Encode(of(x)); string(got) != "\xc5\xc4\x83cat" {
		t.Errorf("a list with bytes: %x", got)
	}
	if got := rlp.Encode(api.Item{List: true, Bytes: []byte{5}}); string(got) != "\xc0" {
		t.Errorf("an empty list with bytes: %x", got)
	}
}

// TestEmpty shows that nil and empty are the same.
func TestEmpty(t *testing.T) {
	for _, x := range []api.Item{{}, {Bytes: []byte{}}, {Kids: []api.Item{}}} {
		if got := rlp.Encode(x); string(got) != "\x80" {
			t.Errorf("%#v: %x", x, got)
		}
	}
	for _, x := range []api.Item{{List: true}, {List: true, Kids: []api.Item{}}, {List: true, Bytes: []byte{}}} {
		if got := rlp.Encode(x); string(got) != "\xc0" {
			t.Errorf("%#v: %x", x, got)
		}
	}
	for _, b := range [][]byte{nil, {}} {
		if x, e := rlp.Decode(b); e != api.ErrRlpForm || !reflect.DeepEqual(x, api.Item{}) {
			t.Errorf("%#v: %v, %v", b, x, e)
		}
	}
}

func TestNumber(t *testing.T) {
	numbers := []uint64{0, 1, 0x7f, 0x80, 0xff, 0x100, 1024, 0xfe00ff, math.MaxUint64 - 1, math.MaxUint64}
	for i := range 64 {
		numbers = append(numbers, 1<<i-1, 1<<i, 1<<i+1)
	}
	for _, n := range numbers {
		want := bytes.TrimLeft(binary.BigEndian.AppendUint64(nil, n), "\x00")
		x := rlp.Number(n)
		if x.List || x.Kids != nil || !bytes.Equal(x.Bytes, want) {
			t.Errorf("%d: %v, not %x", n, x, want)
		}
		if y, e := rlp.Decode(rlp.Encode(x)); e != api.OK || !same(x, y) {
			t.Errorf("%d: decoded as %v, %v", n, y, e)
		}
	}
}
