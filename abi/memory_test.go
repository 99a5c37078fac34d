package abi_test

import (
	"bytes"
	"slices"
	"strings"
	"testing"

	"quaestor/abi"
	"quaestor/api"
	"quaestor/sample"
)

// spoil overwrites all that parts have, up to the capacity of their lists.
func spoil(l []api.Part) {
	for _, p := range l {
		clear(p.Bytes[:cap(p.Bytes)])
	}
	clear(l[:cap(l)])
}

// clone is parts that share nothing.
func clone(l []api.Part) []api.Part {
	var c []api.Part
	for _, p := range l {
		p.Bytes = bytes.Clone(p.Bytes)
		c = append(c, p)
	}
	return c
}

func TestEncodeArgument(t *testing.T) {
	d := dice{3}
	for range 300 {
		l := d.parts()
		kept := clone(l)
		b := abi.Encode(l)
		want := bytes.Clone(b)
		if !slices.EqualFunc(l, kept, same) {
			t.Fatalf("%v was changed", kept)
		}
		clear(b[:cap(b)])
		if !slices.EqualFunc(l, kept, same) || !bytes.Equal(abi.Encode(l), want) {
			t.Fatalf("%v: the answer shares its memory", kept)
		}
		b = abi.Encode(l)
		spoil(l)
		if !bytes.Equal(b, want) {
			t.Fatalf("%v: the argument was kept", kept)
		}
	}
}

// TestEncodeBehind shows that what stands behind a list's end is neither read nor written.
func TestEncodeBehind(t *testing.T) {
	m := sample.Noise(200, 4)
	l := []api.Part{{Dynamic: true, Bytes: m[:3]}, num(5), {Dynamic: true, Bytes: m[3:60]}, {Dynamic: true, Bytes: m[60:60]}, num(6)}
	given, kept := bytes.Clone(m), clone(l)
	for n := range len(l) + 1 {
		if got := abi.Encode(l[:n]); !bytes.Equal(got, encode(clone(l[:n]))) {
			t.Errorf("%d parts: %x", n, got)
		}
	}
	if !bytes.Equal(m, given) || !slices.EqualFunc(l, kept, same) {
		t.Error("the argument was changed")
	}
}

func TestDecodeArgument(t *testing.T) {
	d := dice{4}
	for range 300 {
		want := d.parts()
		k := kinds(want)
		m := abi.Encode(want)
		given, asked := bytes.Clone(m), slices.Clone(k)
		l, e := abi.Decode(k, m)
		if e != api.OK || !slices.EqualFunc(l, want, same) {
			t.Fatalf("%x: %v, %v", m, l, e)
		}
		other, _ := abi.Decode(k, m)
		spoil(other)
		if !bytes.Equal(m, given) || !slices.Equal(k, asked) {
			t.Fatalf("%x: the argument was changed, or the answer shares its memory", given)
		}
		clear(m)
		clear(k)
		if !slices.EqualFunc(l, want, same) {
			t.Fatalf("%x: the argument was kept", given)
		}
	}
}

// TestDecodeBehind shows that what stands behind the end of the bytes, or of the kinds, is neither read nor written.
func TestDecodeBehind(t *testing.T) {
	m := []byte(line(64) + line(1) + line(3) + "dog" + a(29))
	k := []bool{true, false, true}
	given := bytes.Clone(m)
	for n := range len(m) {
		l, e := abi.Decode(k[:2], m[:n])
		if (e == api.OK) != (n >= 99) || e != api.OK && l != nil {
			t.Errorf("%d bytes: %v, %v", n, l, e)
		}
	}
	if l, e := abi.Decode(k[:2], m[:99]); e != api.OK || len(l) != 2 || string(l[0].Bytes) != "dog" {
		t.Errorf("%v, %v", l, e)
	}
	if !bytes.Equal(m, given) || !slices.Equal(k, []bool{true, false, true}) {
		t.Error("the arguments were changed")
	}
}

// TestDecodeParts shows that no two parts of an answer share memory, even if their tails do in the bytes.
func TestDecodeParts(t *testing.T) {
	const n = 4
	code := line(32*n) + line(32*n) + line(32*n+32) + line(32*n) + line(40) + line(4) + "abcdefgh"
	l, e := abi.Decode(slices.Repeat([]bool{true}, n), []byte(code))
	if e != api.OK {
		t.Fatal(e)
	}
	whole := line(4) + "abcdefgh"
	want := []string{whole, whole, "abcd", whole}
	for i := range l {
		for j := i; j < n; j++ {
			if string(l[j].Bytes) != want[j] {
				t.Fatalf("part %d shares memory with one ahead of %d: %x", j, i, l[j].Bytes)
			}
		}
		clear(l[i].Bytes[:cap(l[i].Bytes)])
	}
}

// TestGreat has heads that all name one long tail: their strings together would be greater than any memory, and the last head fails.
func TestGreat(t *testing.T) {
	const n = 1 << 20
	heads := strings.Repeat(line(32*n), n-1)
	b := []byte(heads + line(32*n+1) + line(n) + a(n))
	if l, e := abi.Decode(slices.Repeat([]bool{true}, n), b); e != api.ErrAbiForm || l != nil {
		t.Errorf("%d parts, %v", len(l), e)
	}
	l, e := abi.Decode([]bool{true, true, true}, b)
	if e != api.OK || len(l) != 3 {
		t.Fatalf("%d parts, %v", len(l), e)
	}
	for i, p := range l {
		if string(p.Bytes) != a(n) {
			t.Errorf("part %d: %d bytes", i, len(p.Bytes))
		}
	}
}

func BenchmarkEncode(b *testing.B) {
	l := slices.Repeat([]api.Part{num(5), str(a(60)), str("")}, 1000)
	for b.Loop() {
		abi.Encode(l)
	}
}

func BenchmarkDecode(b *testing.B) {
	l := slices.Repeat([]api.Part{num(5), str(a(60)), str("")}, 1000)
	k, m := kinds(l), abi.Encode(l)
	for b.Loop() {
		abi.Decode(k, m)
	}
}
