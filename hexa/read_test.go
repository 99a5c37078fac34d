package hexa_test

import (
	"bytes"
	"encoding/hex"
	"regexp"
	"strings"
	"testing"

	"quaestor/api"
	"quaestor/hexa"
	"quaestor/sample"
)

// What each of the calls takes, by the chapter's words.
var (
	pairs   = regexp.MustCompile(`^0x([0-9a-fA-F]{2})*$`)
	number  = regexp.MustCompile(`^0x(0|[1-9a-fA-F][0-9a-fA-F]{0,63})$`)
	address = regexp.MustCompile(`^0x[0-9a-fA-F]{40}$`)
)

// counted is the number of a text's digits, each one shifted in; those are right.
func counted(s string) api.Word {
	var a api.Word
	for _, c := range strings.ToLower(s[2:]) {
		for i := 3; i > 0; i-- {
			a[i] = a[i]<<4 | a[i-1]>>60
		}
		a[0] = a[0]<<4 | uint64(strings.IndexRune("0123456789abcdef", c))
	}
	return a
}

// library is the bytes of a text's digits, as the library reads them; those are right.
func library(t *testing.T, s string) []byte {
	t.Helper()
	b, err := hex.DecodeString(s[2:])
	if err != nil {
		t.Fatal(err)
	}
	return b
}

// checkRead holds what Read answers against the chapter's words; and tells whether there are bytes.
func checkRead(t *testing.T, s string) bool {
	t.Helper()
	b, e := hexa.Read(s)
	if !pairs.MatchString(s) {
		if e != api.ErrHexForm || b != nil {
			t.Errorf("Read(%.100q): %x, %v, and not an error", s, b, e)
		}
		return false
	}
	if want := library(t, s); e != api.OK || !bytes.Equal(b, want) {
		t.Errorf("Read(%.100q): %x, %v, not %x", s, b, e, want)
	}
	return true
}

// checkCount does so with Count.
func checkCount(t *testing.T, s string) bool {
	t.Helper()
	a, e := hexa.Count(s)
	switch {
	case !number.MatchString(s):
		if e != api.ErrHexForm || a != (api.Word{}) {
			t.Errorf("Count(%.100q): %x, %v, and not an error", s, a, e)
		}
		return false
	case e != api.OK || a != counted(s):
		t.Errorf("Count(%.100q): %x, %v, not %x", s, a, e, counted(s))
	}
	return true
}

// checkAddress does so with Address.
func checkAddress(t *testing.T, s string) bool {
	t.Helper()
	a, e := hexa.Address(s)
	if !address.MatchString(s) {
		if e != api.ErrHexForm || a != (api.Address{}) {
			t.Errorf("Address(%.100q): %x, %v, and not an error", s, a, e)
		}
		return false
	}
	if want := library(t, s); e != api.OK || !bytes.Equal(a[:], want) {
		t.Errorf("Address(%.100q): %x, %v, not %x", s, a, e, want)
	}
	return true
}

// kinds says by which of Read, Count and Address a text is taken.
func kinds(t *testing.T, s string) [3]bool {
	t.Helper()
	return [3]bool{checkRead(t, s), checkCount(t, s), checkAddress(t, s)}
}

var (
	neither    = [3]bool{}
	onlyBytes  = [3]bool{true, false, false}
	onlyNumber = [3]bool{false, true, false}
	both       = [3]bool{true, true, false}
	noNumber   = [3]bool{true, false, true}
	all        = [3]bool{true, true, true}
)

func TestForms(t *testing.T) {
	z, f := func(n int) string { return strings.Repeat("0", n) }, func(n int) string { return strings.Repeat("f", n) }
	for _, x := range []struct {
		s    string
		want [3]bool
	}{
		{"", neither},
		{"0", neither},
		{"x", neither},
		{"00", neither},
		{"12", neither},
		{"0x", onlyBytes},
		{"0X", neither},
		{"0X00", neither},
		{"0Xab", neither},
		{"0X1", neither},
		{"x0", neither},
		{"x012", neither},
		{"1x12", neither},
		{"Ox12", neither},
		{"00x12", neither},
		{"0x0x12", neither},
		{"0x0x", neither},
		{"0xx12", neither},
		{" 0x12", neither},
		{"0x12 ", neither},
		{"0x 12", neither},
		{"0x1 2", neither},
		{"0x12\n", neither},
		{"0x12\x00", neither},
		{"\x000x12", neither},
		{"-0x12", neither},
		{"0x-12", neither},
		{"0x-1", neither},
		{"0x+1", neither},
		{"0x1_2", neither},
		{"0x_12", neither},
		{"0x1.", neither},
		{"0x1p", neither},
		{"0x1h", neither},
		{"0xg0", neither},
		{"0x0g", neither},
		{"0xG0", neither},
		{"0x\u0660\u0661", neither}, // digits, but of another script
		{"0x\uff11\uff12", neither},
		{"0x\xff\xfe", neither},
		{"0x0", onlyNumber},
		{"0x1", onlyNumber},
		{"0xA", onlyNumber},
		{"0xABC", onlyNumber},
		{"0x00", onlyBytes},
		{"0x01", onlyBytes},
		{"0x0a", onlyBytes},
		{"0x000", neither},
		{"0x001", neither},
		{"0x0AfF", onlyBytes},
		{"0x10", both},
		{"0xaF", both},
		{"0xAFfe", both},
		{"0x" + f(38), both},
		{"0x" + f(39), onlyNumber},
		{"0x" + f(40), all},
		{"0x" + f(41), onlyNumber},
		{"0x" + f(42), both},
		{"0x" + z(38), onlyBytes},
		{"0x" + z(39), neither},
		{"0x" + z(42), onlyBytes},
		{"0x" + z(40), noNumber},
		{"0x" + z(38) + "ff", noNumber},
		{"0X" + f(40), neither},
		{f(40), neither},
		{"0x" + f(63), onlyNumber},
		{"0x" + f(64), both},
		{"0x8" + z(63), both},
		{"0x1" + z(64), neither},
		{"0x1" + f(64), neither},
		{"0x10" + z(64), onlyBytes},
		{"0x" + z(64), onlyBytes},
		{"0x0" + f(64), neither},
		{"0x" + z(2) + f(64), onlyBytes},
		{"0x" + f(65), neither},
		{"0x" + f(66), onlyBytes},
		{"0x" + f(1<<20), onlyBytes},
		{"0x" + f(1<<20) + "g0", neither},
		{"0x" + f(1<<20+1), neither},
	} {
		if got := kinds(t, x.s); got != x.want {
			t.Errorf("%.100q is taken by Read, Count, Address: %v, not %v", x.s, got, x.want)
		}
	}
}

// TestSigns has all bytes at all places of a short text, and of an address.
func TestSigns(t *testing.T) {
	for _, s := range []string{"0x1", "0x12", "0xabc", "0xDEF9", "0x" + strings.Repeat("1b", 20)} {
		for i := range len(s) {
			for c := range 256 {
				b := []byte(s)
				b[i] = byte(c)
				kinds(t, string(b))
			}
		}
	}
	for c := range 1 << 16 { // two of all bytes
		s := "0x" + string([]byte{byte(c >> 8), byte(c)})
		checkRead(t, s)
		checkCount(t, s)
	}
}

// TestLengths has digits of all lengths around those of numbers and addresses.
func TestLengths(t *testing.T) {
	for n := range 140 {
		m := hex.EncodeToString(sample.Noise(n, uint64(n)))[:n]
		for _, s := range []string{m, strings.ToUpper(m), "0" + m, "7" + m} {
			kinds(t, "0x"+s)
			kinds(t, s)
			kinds(t, "0x"+s+"g")
		}
	}
}

// TestDrawn draws texts of few signs.
func TestDrawn(t *testing.T) {
	const signs = "0011x9aFfg/:@`GX \xc3"
	d := dice{5}
	var taken [3]int
	for range 200000 {
		s := []byte{'0', 'x'}[:2-d.Below(16)/15]
		few := len(signs) - d.Below(2)*7
		for range d.Below(9) {
			s = append(s, signs[d.Below(few)])
		}
		for i, ok := range kinds(t, string(s)) {
			if ok {
				taken[i]++
			}
		}
	}
	for range 2000 {
		s := []byte(hexa.Write(d.noise(20)))
		s[d.Below(len(s))] = signs[d.Below(len(signs))]
		if kinds(t, string(s))[2] {
			taken[2]++
		}
	}
	for i, n := range taken {
		if n < 500 || n > 100000 {
			t.Errorf("kind %d: %d were taken", i, n)
		}
	}
}

func TestKnown(t *testing.T) {
	if b, e := hexa.Read("0x0aFf"); e != api.OK || !bytes.Equal(b, []byte{10, 255}) {
		t.Errorf("%x, %v", b, e)
	}
	if a, e := hexa.Count("0x1234567890aBcDeF0"); e != api.OK || a != (api.Word{0x234567890abcdef0, 1}) {
		t.Errorf("%x, %v", a, e)
	}
	if a, e := hexa.Count("0x" + strings.Repeat("f", 64)); e != api.OK || a != (api.Word{most, most, most, most}) {
		t.Errorf("%x, %v", a, e)
	}
	want := api.Address{4: 0x71, 0x72, 0x7d, 0xe2, 0x2e, 0x5e, 0x9d, 0x8b, 0xaf, 0x0e, 0xda, 0xc6, 0xf3, 0x7d, 0xa0, 0x32}
	if a, e := hexa.Address("0x0000000071727de22e5e9d8baf0edac6f37da032"); e != api.OK || a != want {
		t.Errorf("%x, %v", a, e)
	}
}

// TestReadFresh shows that no two answers share memory.
func TestReadFresh(t *testing.T) {
	for _, s := range []string{"0x", "0x12", "0x" + strings.Repeat("5a", 100)} {
		b, _ := hexa.Read(s)
		kept := bytes.Clone(b)
		other, _ := hexa.Read(s)
		clear(other[:cap(other)])
		if again, e := hexa.Read(s); e != api.OK || !bytes.Equal(again, kept) || !bytes.Equal(b, kept) {
			t.Errorf("%s: %x, %x, %v", s, b, again, e)
		}
	}
}

func BenchmarkWrite(b *testing.B) {
	m := sample.Noise(1<<16, 6)
	for b.Loop() {
		hexa.Write(m)
	}
}

func BenchmarkRead(b *testing.B) {
	s := hexa.Write(sample.Noise(1<<16, 6))
	for b.Loop() {
		hexa.Read(s)
	}
}
