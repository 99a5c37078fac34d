package rlp_test

import (
	"bytes"
	"slices"
	"testing"

	"quaestor/api"
	"quaestor/rlp"
	"quaestor/sample"
)

// spoil overwrites all that an item has, up to the capacity of its lists.
func spoil(x api.Item) {
	for _, k := range x.Kids {
		spoil(k)
	}
	clear(x.Bytes[:cap(x.Bytes)])
	clear(x.Kids[:cap(x.Kids)])
}

// clone is an item that shares nothing.
func clone(x api.Item) api.Item {
	y := api.Item{List: x.List, Bytes: bytes.Clone(x.Bytes)}
	for _, k := range x.Kids {
		y.Kids = append(y.Kids, clone(k))
	}
	return y
}

func TestEncodeArgument(t *testing.T) {
	d := dice{3}
	for range 200 {
		x := d.item(4)
		kept := clone(x)
		b := rlp.Encode(x)
		want := bytes.Clone(b)
		if !same(x, kept) {
			t.Fatalf("%v was changed", kept)
		}
		clear(b[:cap(b)])
		if !same(x, kept) || !bytes.Equal(rlp.Encode(x), want) {
			t.Fatalf("%v: the answer shares its memory", kept)
		}
		b = rlp.Encode(x)
		spoil(x)
		if !bytes.Equal(b, want) {
			t.Fatalf("%v: the argument was kept", kept)
		}
	}
}

// TestEncodeBehind shows that what stands behind a list's end is neither read nor written.
func TestEncodeBehind(t *testing.T) {
	m := sample.Noise(400, 4)
	kids := []api.Item{{Bytes: m[:3]}, {Bytes: m[3:60]}, {Bytes: m[60:61]}, {List: true}}
	given, kept := bytes.Clone(m), clone(of(kids...))
	for n := range len(kids) {
		x := of(kids[:n]...)
		if got := rlp.Encode(x); !bytes.Equal(got, encode(clone(x))) {
			t.Errorf("%d kids: %x", n, got)
		}
	}
	if !bytes.Equal(m, given) || !same(of(kids...), kept) {
		t.Error("the argument was changed")
	}
}

func TestDecodeArgument(t *testing.T) {
	d := dice{4}
	for range 200 {
		want := d.item(4)
		m := append(rlp.Encode(want), 0x80, 0xc0, 0x05)
		n := len(m) - 3
		given := bytes.Clone(m)
		x, e := rlp.Decode(m[:n])
		if e != api.OK || !same(x, want) {
			t.Fatalf("%x: %v, %v", m[:n], x, e)
		}
		if !bytes.Equal(m, given) {
			t.Fatalf("%x was changed", given)
		}
		y, _ := rlp.Decode(m[:n])
		spoil(y)
		if !bytes.Equal(m, given) || !same(x, want) {
			t.Fatalf("%x: the answer shares its memory", given)
		}
		clear(m)
		if !same(x, want) {
			t.Fatalf("%x: the argument was kept", given)
		}
	}
}

// texts are the strings of an item.
func texts(x api.Item) [][]byte {
	if !x.List {
		return [][]byte{x.Bytes}
	}
	var l [][]byte
	for _, k := range x.Kids {
		l = append(l, texts(k)...)
	}
	return l
}

// TestDecodeParts shows that no two lists of an answer share memory: neither does one reach into another behind its end.
func TestDecodeParts(t *testing.T) {
	want := of(str("one"), str("two"), of(str("three"), str("4"), of()), str(""), str(a(60)))
	x, e := rlp.Decode(rlp.Encode(want))
	if e != api.OK {
		t.Fatal(e)
	}
	l := texts(x)
	kept := slices.Collect(func(yield func([]byte) bool) {
		for _, s := range l {
			if !yield(bytes.Clone(s)) {
				return
			}
		}
	})
	for i, s := range l {
		clear(s[:cap(s)])
		for j := range l[i+1:] {
			if !bytes.Equal(l[i+1+j], kept[i+1+j]) {
				t.Errorf("strings %d and %d share memory", i, i+1+j)
			}
		}
	}
	inner := x.Kids[2].Kids
	clear(x.Kids[:cap(x.Kids)])
	if len(inner) != 3 || inner[0].Bytes == nil || !inner[2].List {
		t.Errorf("the lists share memory: %v", inner)
	}
}

func TestNumberFresh(t *testing.T) {
	x := rlp.Number(0x1234)
	clear(x.Bytes[:cap(x.Bytes)])
	if y := rlp.Number(0x1234); !bytes.Equal(y.Bytes, []byte{0x12, 0x34}) {
		t.Errorf("%v", y)
	}
}

func BenchmarkEncode(b *testing.B) {
	x := nest(60, of(slices.Repeat([]api.Item{str("dog"), str(a(60)), of()}, 1000)...))
	for b.Loop() {
		rlp.Encode(x)
	}
}

func BenchmarkDecode(b *testing.B) {
	m := rlp.Encode(nest(60, of(slices.Repeat([]api.Item{str("dog"), str(a(60)), of()}, 1000)...)))
	for b.Loop() {
		rlp.Decode(m)
	}
}
