package hexa_test

import (
	"bytes"
	"encoding/hex"
	"fmt"
	"strings"
	"testing"

	"quaestor/api"
	"quaestor/hexa"
	"quaestor/sample"
)

// The calls have the signatures that the chapter lists.
var (
	_ func([]byte) string                   = hexa.Write
	_ func(string) ([]byte, api.Errno)      = hexa.Read
	_ func(api.Word) string                 = hexa.Number
	_ func(string) (api.Word, api.Errno)    = hexa.Count
	_ func(string) (api.Address, api.Errno) = hexa.Address
)

const most uint64 = 1<<64 - 1

// written is a word in the chapter's notation, by the library.
func written(a api.Word) string {
	d := strings.TrimLeft(fmt.Sprintf("%016x%016x%016x%016x", a[3], a[2], a[1], a[0]), "0")
	return "0x" + max(d, "0") // no digit at all comes ahead of 0, and every other number behind it
}

// dice draws words and bytes, too.
type dice struct{ sample.Dice }

func (d *dice) noise(n int) []byte { return sample.Noise(n, uint64(d.Below(1<<30))) }

// word has 0 to 64 digits.
func (d *dice) word() api.Word {
	var a api.Word
	for i := range d.Below(65) {
		a[i/16] |= uint64(d.Below(16)) << (i % 16 * 4)
	}
	return a
}

// words are those at the edges, those of one bit and of one digit, and drawn ones.
func words() []api.Word {
	l := []api.Word{{}, {1}, {255}, {256}, {most}, {0, 1}, {most, most}, {0, 0, 1}, {most, most, most}, {0, 0, 0, 1}, {most, most, most, most}}
	for i := range 256 {
		var a, b api.Word
		a[i/64] = 1 << (i % 64)
		for j := range i {
			b[j/64] |= 1 << (j % 64)
		}
		l = append(l, a, b)
	}
	for i := range 64 {
		for v := range uint64(16) {
			var a api.Word
			a[i/16] = v << (i % 16 * 4)
			l = append(l, a)
		}
	}
	d := dice{1}
	for range 5000 {
		l = append(l, d.word())
	}
	return l
}

func TestWrite(t *testing.T) {
	for _, x := range []struct {
		b    []byte
		want string
	}{
		{nil, "0x"},
		{[]byte{}, "0x"},
		{[]byte{0}, "0x00"},
		{[]byte{10, 255}, "0x0aff"},
		{[]byte{0, 0, 1}, "0x000001"},
		{[]byte{0x01, 0x23, 0x45, 0x67, 0x89, 0xab, 0xcd, 0xef}, "0x0123456789abcdef"},
		{[]byte{0xfe, 0xdc, 0xba, 0x98, 0x76, 0x54, 0x32, 0x10}, "0xfedcba9876543210"},
	} {
		if got := hexa.Write(x.b); got != x.want {
			t.Errorf("%v: %s, not %s", x.b, got, x.want)
		}
	}
	for n := range 300 {
		m := sample.Noise(n, uint64(n))
		if got := hexa.Write(m); got != "0x"+hex.EncodeToString(m) {
			t.Errorf("%x: %s", m, got)
		}
		if got := hexa.Write([]byte{byte(n)}); got != fmt.Sprintf("0x%02x", byte(n)) {
			t.Errorf("%x: %s", byte(n), got)
		}
	}
	if m := sample.Noise(1<<20, 2); hexa.Write(m) != "0x"+hex.EncodeToString(m) {
		t.Error("many bytes")
	}
}

// TestWriteArgument shows that bytes are neither changed nor kept, and that those behind their end count for nothing.
func TestWriteArgument(t *testing.T) {
	m := sample.Noise(50, 3)
	given := bytes.Clone(m)
	for n := range len(m) + 1 {
		s := hexa.Write(m[:n])
		if !bytes.Equal(m, given) {
			t.Fatalf("%d bytes: the argument was changed", n)
		}
		clear(m)
		if s != "0x"+hex.EncodeToString(given[:n]) {
			t.Errorf("%d bytes: %s", n, s)
		}
		copy(m, given)
	}
}

func TestNumber(t *testing.T) {
	for _, x := range []struct {
		a    api.Word
		want string
	}{
		{api.Word{}, "0x0"},
		{api.Word{1}, "0x1"},
		{api.Word{10}, "0xa"},
		{api.Word{16}, "0x10"},
		{api.Word{256}, "0x100"},
		{api.Word{0xabcdef}, "0xabcdef"},
		{api.Word{0, 1}, "0x10000000000000000"},
		{api.Word{0x0123456789abcdef, 0xfedcba98}, "0xfedcba980123456789abcdef"},
		{api.Word{0, 0, 0, 1 << 63}, "0x8" + strings.Repeat("0", 63)},
		{api.Word{0, 0, 0, 1 << 56}, "0x1" + strings.Repeat("0", 62)},
		{api.Word{most, most, most, most}, "0x" + strings.Repeat("f", 64)},
	} {
		if got := hexa.Number(x.a); got != x.want {
			t.Errorf("%x: %s, not %s", x.a, got, x.want)
		}
	}
	for _, a := range words() {
		if got := hexa.Number(a); got != written(a) {
			t.Errorf("%x: %s, not %s", a, got, written(a))
		}
	}
}

// TestRound shows that what was written can be read again, in small letters and in great ones.
func TestRound(t *testing.T) {
	for n := range 300 {
		m := sample.Noise(n, uint64(n))
		s := hexa.Write(m)
		for _, s := range []string{s, "0x" + strings.ToUpper(s[2:])} {
			if b, e := hexa.Read(s); e != api.OK || !bytes.Equal(b, m) {
				t.Errorf("%s: %x, %v", s, b, e)
			}
		}
		var who api.Address
		copy(who[n%20:], m)
		if a, e := hexa.Address(hexa.Write(who[:])); e != api.OK || a != who {
			t.Errorf("%x: %x, %v", who, a, e)
		}
	}
	for _, a := range words() {
		s := hexa.Number(a)
		for _, s := range []string{s, "0x" + strings.ToUpper(s[2:])} {
			if got, e := hexa.Count(s); e != api.OK || got != a {
				t.Errorf("%s: %x, %v", s, got, e)
			}
		}
	}
}
