package abi_test

import (
	"bytes"
	"math/big"
	"slices"
	"strings"
	"testing"

	"quaestor/abi"
	"quaestor/api"
	"quaestor/sample"
)

// find is the byte string that a head names, by the chapter's conditions over exact numbers; false: there is none.
func find(b []byte, head *big.Int) ([]byte, bool) {
	end := new(big.Int).Add(head, big.NewInt(32))
	size := big.NewInt(int64(len(b)))
	if end.Cmp(size) > 0 {
		return nil, false
	}
	from := end.Int64()
	n := new(big.Int).SetBytes(b[from-32 : from])
	if end.Add(end, n).Cmp(size) > 0 {
		return nil, false
	}
	return b[from:end.Int64()], true
}

// decode goes by the chapter's words; false: it is an error.
func decode(dynamic []bool, b []byte) ([]api.Part, bool) {
	if len(b) < 32*len(dynamic) {
		return nil, false
	}
	var l []api.Part
	for i, d := range dynamic {
		head := new(big.Int).SetBytes(b[32*i : 32*i+32])
		if !d {
			l = append(l, api.Part{Word: wordOf(head)})
			continue
		}
		s, ok := find(b, head)
		if !ok {
			return nil, false
		}
		l = append(l, api.Part{Dynamic: true, Bytes: s})
	}
	return l, true
}

// wordOf is a number as a word.
func wordOf(v *big.Int) api.Word {
	var w api.Word
	for i := range w {
		w[i] = new(big.Int).And(new(big.Int).Rsh(v, uint(64*i)), new(big.Int).SetUint64(1<<64-1)).Uint64()
	}
	return w
}

// checkDecode says whether bytes are told to be the parts that they are, or an error; and tells which.
func checkDecode(t *testing.T, dynamic []bool, b []byte) bool {
	t.Helper()
	want, ok := decode(dynamic, b)
	got, e := abi.Decode(dynamic, b)
	switch {
	case !ok && (e != api.ErrAbiForm || got != nil):
		t.Fatalf("%v of %x: %v, %v, and not an error", dynamic, b, got, e)
	case ok && (e != api.OK || !slices.EqualFunc(got, want, same)):
		t.Fatalf("%v of %x: %v, %v, not %v", dynamic, b, got, e, want)
	}
	return ok
}

// high is 2^n plus a number, in 32 bytes; a number below 0 is taken off.
func high(n uint, more int64) string {
	v := new(big.Int).Lsh(big.NewInt(1), n)
	v.Add(v, big.NewInt(more))
	return string(v.Mod(v, new(big.Int).Lsh(big.NewInt(1), 256)).FillBytes(make([]byte, 32)))
}

var (
	bytesOnly = []bool{true}
	wordBytes = []bool{false, true}
	bytesWord = []bool{true, false}
	twice     = []bool{true, true}
	threeWord = []bool{false, false, false}
)

func TestWrong(t *testing.T) {
	for _, x := range []struct {
		name    string
		dynamic []bool
		code    string
	}{
		{"no head", []bool{false}, ""},
		{"half a word", []bool{false}, a(31)},
		{"a byte less than the heads", threeWord, a(95)},
		{"one head of two", []bool{false, false}, a(32)},
		{"half a head", bytesOnly, line(32)[:31]},
		{"no second head, though the first one's tail is there", bytesWord, line(0) + a(31)},
		{"a head at the end", bytesOnly, line(32)},
		{"a head beyond the end", bytesOnly, line(33)},
		{"half a length", bytesOnly, line(32) + line(0)[:31]},
		{"a length that goes over the end by a byte", bytesOnly, line(33) + line(0)},
		{"a head that is its own length", bytesOnly, line(1) + a(100)},
		{"a byte too few", bytesOnly, line(32) + line(5) + "four"},
		{"no bytes where one should be", bytesOnly, line(32) + line(1)},
		{"the second one's length", twice, line(64) + line(96) + line(0) + line(1)},
		{"the second one's head", twice, line(64) + line(65) + line(0)},
		{"the first one's head", twice, line(97) + line(64) + line(0) + line(0)},
		{"behind a word", wordBytes, line(5) + line(65) + line(0)},
		{"a head of 2^31", bytesOnly, high(31, 0) + line(0)},
		{"a head of 2^32 and a good one", bytesOnly, high(32, 32) + line(0)},
		{"a head of 2^63", bytesOnly, high(63, 0) + line(0)},
		{"a head of 2^63 - 1", bytesOnly, high(63, -1) + line(0)},
		{"a head of 2^64 - 32", bytesOnly, high(64, -32) + line(0)},
		{"a head of 2^64 - 1", bytesOnly, high(64, -1) + line(0)},
		{"a head of 2^64", bytesOnly, high(64, 0) + line(0)},
		{"a head of 2^64 and a good one", bytesOnly, high(64, 32) + line(0)},
		{"a head of 2^128 and a good one", bytesOnly, high(128, 32) + line(0)},
		{"a head of 2^192 and a good one", bytesOnly, high(192, 32) + line(0)},
		{"a head of 2^255 and a good one", bytesOnly, high(255, 32) + line(0)},
		{"a head of 2^256 - 32", bytesOnly, high(256, -32) + line(0)},
		{"a head of 2^256 - 1", bytesOnly, high(256, -1) + line(0)},
		{"a length of 2^31", bytesOnly, line(32) + high(31, 0) + a(40)},
		{"a length of 2^32 and a good one", bytesOnly, line(32) + high(32, 1) + a(40)},
		{"a length of 2^63", bytesOnly, line(32) + high(63, 0) + a(40)},
		{"a length of 2^63 - 1", bytesOnly, line(32) + high(63, -1) + a(40)},
		{"a length of 2^64 - 64", bytesOnly, line(32) + high(64, -64) + a(40)},
		{"a length of 2^64 - 1", bytesOnly, line(32) + high(64, -1) + a(40)},
		{"a length of 2^64", bytesOnly, line(32) + high(64, 0) + a(40)},
		{"a length of 2^64 and a good one", bytesOnly, line(32) + high(64, 1) + a(40)},
		{"a length of 2^128 and a good one", bytesOnly, line(32) + high(128, 1) + a(40)},
		{"a length of 2^192 and a good one", bytesOnly, line(32) + high(192, 1) + a(40)},
		{"a length of 2^256 - 64", bytesOnly, line(32) + high(256, -64) + a(40)},
		{"a length of 2^256 - 1", bytesOnly, line(32) + high(256, -1) + a(40)},
	} {
		l, e := abi.Decode(x.dynamic, []byte(x.code))
		if e != api.ErrAbiForm || l != nil {
			t.Errorf("%s: %v, %v", x.name, l, e)
		}
		if checkDecode(t, x.dynamic, []byte(x.code)) {
			t.Errorf("%s: not wrong", x.name)
		}
	}
}

// TestLoose has bytes that are well though no parts are encoded as them: tails may stand anywhere, and all else is ignored.
func TestLoose(t *testing.T) {
	for _, x := range []struct {
		name    string
		dynamic []bool
		code    string
		want    []api.Part
	}{
		{"more behind a word", []bool{false}, line(7) + "more", []api.Part{num(7)}},
		{"more behind bytes", bytesOnly, line(32) + line(1) + "a" + "more", []api.Part{str("a")}},
		{"bytes up to the end", bytesOnly, line(32) + line(3) + "dog", []api.Part{str("dog")}},
		{"no bytes, at the end", bytesOnly, line(32) + line(0), []api.Part{str("")}},
		{"noughts that are none", bytesOnly, line(32) + line(3) + "dog" + a(29), []api.Part{str("dog")}},
		{"a tail at no multiple of 32", bytesOnly, line(35) + "gap" + line(3) + "dog", []api.Part{str("dog")}},
		{"a gap behind the heads", bytesOnly, line(64) + a(32) + line(3) + "dog", []api.Part{str("dog")}},
		{"a tail that is its head", bytesOnly, line(0) + "dog", []api.Part{str("")}},
		{"a tail that is another head", bytesWord, line(32) + line(3) + "dog", []api.Part{str("dog"), num(3)}},
		{"the same tail twice", twice, line(64) + line(64) + line(3) + "dog", []api.Part{str("dog"), str("dog")}},
		{"a tail within another one", twice, line(64) + line(96) + line(34) + line(2) + "ab", []api.Part{str(line(2) + "ab"), str("ab")}},
		{"tails that overlap", twice, line(64) + line(96) + line(33) + line(2) + "ab", []api.Part{str(line(2) + "a"), str("ab")}},
		{"tails the other way round", twice, line(99) + line(64) + line(3) + "dog" + line(3) + "cat", []api.Part{str("cat"), str("dog")}},
	} {
		got, e := abi.Decode(x.dynamic, []byte(x.code))
		if e != api.OK || !slices.EqualFunc(got, x.want, same) {
			t.Errorf("%s: %v, %v", x.name, got, e)
		}
		if !checkDecode(t, x.dynamic, []byte(x.code)) {
			t.Errorf("%s: wrong", x.name)
		}
	}
}

// TestPlaces goes over all places and lengths of a string in bytes of some length, those that go over the end among them.
func TestPlaces(t *testing.T) {
	for size := 32; size <= 140; size += 9 {
		noise := sample.Noise(size, uint64(size))
		for head := range size + 40 {
			b := bytes.Clone(noise)
			copy(b, line(int64(head)))
			if head < 32 || head+32 > size {
				checkDecode(t, bytesOnly, b)
				continue
			}
			for n := range size - head {
				copy(b[head:], line(int64(n)))
				if checkDecode(t, bytesOnly, b) != (head+32+n <= size) {
					t.Fatalf("head %d, length %d in %d bytes", head, n, size)
				}
			}
		}
	}
}

// TestSizes cuts encoded parts off at all lengths.
func TestSizes(t *testing.T) {
	l := []api.Part{num(1), str(a(40)), num(2), str(""), str(a(32))}
	b := abi.Encode(l)
	for n := range len(b) + 1 {
		if checkDecode(t, kinds(l), b[:n]) != (n == len(b)) {
			t.Errorf("%d bytes of %d", n, len(b))
		}
		checkDecode(t, make([]bool, 5), b[:n])
	}
}

// TestBits sets each bit of a head and of a length.
func TestBits(t *testing.T) {
	good := []byte(line(32) + line(32) + a(200))
	for i := range 512 {
		b := bytes.Clone(good)
		b[i/8] ^= 1 << (i % 8)
		checkDecode(t, bytesOnly, b)
	}
}

// dice draws parts, too.
type dice struct{ sample.Dice }

func (d *dice) parts() []api.Part {
	var l []api.Part
	for range d.Below(7) {
		if d.Below(2) == 0 {
			l = append(l, api.Part{Word: wordOf(new(big.Int).SetBytes(d.noise(d.Below(33))))})
			continue
		}
		n := []int{0, 1, 2, 20, 31, 32, 33, 63, 64, 65, 200}[d.Below(11)]
		l = append(l, api.Part{Dynamic: true, Bytes: d.noise(n)})
	}
	return l
}

func (d *dice) noise(n int) []byte { return sample.Noise(n, uint64(d.Below(1<<30))) }

// TestRound draws parts, and what comes out of their bytes if some are cut off, put behind, or changed.
func TestRound(t *testing.T) {
	d := dice{1}
	wrong := 0
	for range 3000 {
		l := d.parts()
		b := abi.Encode(l)
		if !bytes.Equal(b, encode(l)) {
			t.Fatalf("%v: encoded as %x", l, b)
		}
		got, e := abi.Decode(kinds(l), b)
		if e != api.OK || !slices.EqualFunc(got, l, same) {
			t.Fatalf("%x: %v, %v", b, got, e)
		}
		if !checkDecode(t, kinds(l), append(bytes.Clone(b), d.noise(40)...)) {
			t.Fatalf("%x: more behind it", b)
		}
		for range 30 {
			other := bytes.Clone(b[:len(b)-d.Below(min(len(b), 80)+1)])
			if len(other) > 0 {
				other[d.Below(len(other))] = byte(d.Below(256))
			}
			if !checkDecode(t, kinds(l), other) {
				wrong++
			}
		}
	}
	if wrong < 10000 || wrong > 80000 {
		t.Errorf("%d were wrong", wrong)
	}
}

// TestNoise draws bytes whose words are small numbers, at all kinds.
func TestNoise(t *testing.T) {
	d := dice{2}
	well := 0
	for range 100000 {
		var b strings.Builder
		for range d.Below(8) {
			b.WriteString(line(int64(d.Below(200))))
		}
		var dynamic []bool
		for range d.Below(5) {
			dynamic = append(dynamic, d.Below(2) == 0)
		}
		if checkDecode(t, dynamic, append([]byte(b.String()), d.noise(d.Below(32))...)) {
			well++
		}
	}
	if well < 10000 || well > 90000 {
		t.Errorf("%d were parts", well)
	}
}
