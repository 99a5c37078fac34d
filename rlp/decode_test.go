package rlp_test

import (
	"bytes"
	"encoding/binary"
	"reflect"
	"slices"
	"testing"

	"quaestor/api"
	"quaestor/rlp"
	"quaestor/sample"
)

// encode goes by the chapter's words, from the front.
func encode(x api.Item) []byte {
	if !x.List && len(x.Bytes) == 1 && x.Bytes[0] < 0x80 {
		return x.Bytes
	}
	head, body := byte(0x80), x.Bytes
	if x.List {
		head, body = 0xc0, nil
		for _, k := range x.Kids {
			body = append(body, encode(k)...)
		}
	}
	if len(body) <= 55 {
		return append([]byte{head + byte(len(body))}, body...)
	}
	big := bytes.TrimLeft(binary.BigEndian.AppendUint64(nil, uint64(len(body))), "\x00")
	return slices.Concat([]byte{head + 55 + byte(len(big))}, big, body)
}

// depth is how deep items are nested.
func depth(x api.Item) int {
	n := 0
	for _, k := range x.Kids {
		n = max(n, depth(k))
	}
	return n + 1
}

// checkFields says whether an answer has what its kind has, and no more.
func checkFields(t *testing.T, x api.Item) {
	t.Helper()
	if x.List && x.Bytes != nil || !x.List && x.Kids != nil {
		t.Fatalf("%v has what its kind has not", x)
	}
	for _, k := range x.Kids {
		checkFields(t, k)
	}
}

// checkFails says whether bytes are no item.
func checkFails(t *testing.T, b []byte) {
	t.Helper()
	if x, e := rlp.Decode(b); e != api.ErrRlpForm || !reflect.DeepEqual(x, api.Item{}) {
		t.Errorf("%d bytes, %x: %.60v, %v", len(b), b[:min(len(b), 80)], x, e)
	}
}

// checkAny says whether bytes are told to be an item only if they are that item's.
func checkAny(t *testing.T, b []byte) bool {
	t.Helper()
	x, e := rlp.Decode(b)
	switch {
	case e == api.ErrRlpForm && reflect.DeepEqual(x, api.Item{}):
		return false
	case e != api.OK || !bytes.Equal(encode(x), b) || !bytes.Equal(rlp.Encode(x), b) || depth(x) > 64:
		t.Fatalf("%x: %v, %v", b, x, e)
	}
	checkFields(t, x)
	return true
}

// dice draws items, too.
type dice struct{ sample.Dice }

// item draws an item of at most so many levels.
func (d *dice) item(levels int) api.Item {
	if levels > 1 && d.Below(3) > 0 {
		var kids []api.Item
		for range d.Below(5) {
			kids = append(kids, d.item(levels-1))
		}
		return of(kids...)
	}
	n := []int{0, 1, 1, 2, 20, 32, 54, 55, 56, 57, 255, 256, 300}[d.Below(13)]
	return api.Item{Bytes: sample.Noise(n, uint64(d.Below(1<<30)))}
}

func TestWrong(t *testing.T) {
	for _, s := range []string{
		"",
		// A string ends early, or its length does.
		"\x81", "\x83do", "\xb7" + a(54), "\xb8\x38" + a(55),
		"\xb8", "\xb9", "\xb9\x01", "\xbf\x01\x00\x00\x00\x00\x00\x00",
		// A string could be shorter, or its length could.
		"\x81\x00", "\x81\x05", "\x81\x7f", "\xb8\x01\x05", "\xb8\x01\xff", "\xb8\x00", "\xb8\x37" + a(55),
		"\xb9\x00\x38" + a(56), "\xb9\x00\xff" + a(255), "\xba\x00\x01\x00" + a(256), "\xbf\x00\x00\x00\x00\x00\x00\x00\x38" + a(56),
		// A list ends early, or its length does.
		"\xc1", "\xc2\xc0", "\xf7" + a(54), "\xf8\x38" + a(55),
		"\xf8", "\xf9\x01", "\xff\x01\x00\x00\x00\x00\x00\x00",
		// A list could be shorter, or its length could.
		"\xf8\x00", "\xf8\x01a", "\xf8\x37" + a(55),
		"\xf9\x00\x38" + a(56), "\xf9\x00\xff" + a(255), "\xfa\x00\x01\x00" + a(256),
		// More stands behind the item.
		"\x80\x80", "aa", "\x83dog\x00", "\xc0\xc0", "\xc1aa", "\xb8\x38" + a(57), "\xf8\x38" + a(57),
		// A kid is none, or goes on behind its list.
		"\xc1\x81", "\xc3\x83do", "\xc2\x81\x05", "\xc1\xb8", "\xc3a\xb8\x38", "\xc2a\xc1", "\xc4\xc3\x83do", "\xf8\x38\x81" + a(55),
		"\xc2\x83dog", "\xc3\xc3\x83dog", "\xc1\xc1a", "\xc2\xc1\x81\x80", "\xc3\x82a\xc0\xc0\xc0",
		// No memory has so many bytes.
		"\xbf\xff\xff\xff\xff\xff\xff\xff\xff", "\xff\xff\xff\xff\xff\xff\xff\xff\xff",
		"\xbf\x80\x00\x00\x00\x00\x00\x00\x00a", "\xff\x7f\xff\xff\xff\xff\xff\xff\xffa", "\xbb\xff\xff\xff\xffa", "\xfb\x7f\xff\xff\xffa",
		"\xbf\xff\xff\xff\xff\xff\xff\xff\xf7" + a(300), "\xff\xff\xff\xff\xff\xff\xff\xff\xf7" + a(300),
	} {
		checkFails(t, []byte(s))
	}
}

// TestShort goes over all bytes up to two, and over those of three whose last one is at an edge: what is an item is so exactly if an item has it as its bytes.
func TestShort(t *testing.T) {
	items := map[string]api.Item{}
	add := func(l ...api.Item) {
		for _, x := range l {
			items[string(encode(x))] = x
		}
	}
	var singles []api.Item // of one byte
	for c := range 0x80 {
		singles = append(singles, str(string([]byte{byte(c)})))
	}
	singles = append(singles, str(""), of())
	var doubles []api.Item
	for c := range 0x80 {
		doubles = append(doubles, str(string([]byte{byte(0x80 + c)})))
	}
	for _, x := range singles {
		doubles = append(doubles, of(x))
	}
	add(singles...)
	add(doubles...)
	for _, x := range doubles {
		add(of(x))
	}
	for _, x := range singles {
		for _, y := range singles {
			add(of(x, y))
		}
	}
	for c := range 0x10000 {
		add(str(string([]byte{byte(c >> 8), byte(c)})))
	}
	check := func(b ...byte) {
		x, e := rlp.Decode(b)
		want, ok := items[string(b)]
		if ok && (e != api.OK || !same(x, want)) || !ok && (e != api.ErrRlpForm || !same(x, api.Item{})) {
			t.Fatalf("%x: %v, %v", b, x, e)
		}
	}
	check()
	for c := range 0x100 {
		check(byte(c))
		for d := range 0x100 {
			check(byte(c), byte(d))
			for _, last := range []byte{0, 1, 0x37, 0x38, 0x7f, 0x80, 0x81, 0xb7, 0xb8, 0xbf, 0xc0, 0xc1, 0xf7, 0xf8, 0xff} {
				check(byte(c), byte(d), last)
			}
		}
	}
}

// TestRound draws items, and what comes out of their bytes if some are cut off, put behind, or changed.
func TestRound(t *testing.T) {
	d := dice{1}
	for range 1500 {
		x := d.item(6)
		b := rlp.Encode(x)
		if !bytes.Equal(b, encode(x)) {
			t.Fatalf("%v: encoded as %x", x, b)
		}
		if y, e := rlp.Decode(b); e != api.OK || !same(x, y) {
			t.Fatalf("%x: %v, %v", b, y, e)
		}
		for n := range min(len(b), 100) {
			checkFails(t, b[:n])
			checkFails(t, b[:len(b)-1-n])
		}
		checkFails(t, append(bytes.Clone(b), byte(d.Below(256))))
		for range 100 {
			other := bytes.Clone(b)
			other[d.Below(min(len(b), 80))] = byte(d.Below(256))
			checkAny(t, other)
		}
	}
}

// TestNoise draws bytes most of which are heads.
func TestNoise(t *testing.T) {
	d := dice{2}
	items := 0
	for range 300000 {
		b := make([]byte, 1+d.Below(12))
		for i := range b {
			b[i] = []byte{0, 1, 0x7f, 0x80, 0x81, 0x82, 0xb8, 0xc0, 0xc1, 0xc2, 0xc3, 0xc4, 0xc5, 0xc6, 0xf8}[d.Below(15)]
		}
		if checkAny(t, b) {
			items++
		}
	}
	if items < 1000 {
		t.Errorf("only %d were items", items)
	}
}

func TestDepth(t *testing.T) {
	for _, x := range []struct {
		item api.Item
		ok   bool
	}{
		{nest(63, str("a")), true},
		{nest(64, str("a")), false},
		{nest(63, str("")), true},
		{nest(64, str("")), false},
		{nest(63, str(a(300))), true},
		{nest(64, str(a(300))), false},
		{nest(63, of()), true},
		{nest(64, of()), false},
		{nest(62, of(str("a"), of(), str(a(60)))), true},
		{nest(63, of(str("a"))), false},
		{of(str("a"), nest(62, of()), str("b"), nest(62, of())), true},
		{of(str("a"), nest(62, of()), str("b"), nest(63, of())), false},
		{of(nest(63, of()), str("b")), false},
		{nest(100, of()), false},
		{nest(1<<12, of()), false},
	} {
		b := rlp.Encode(x.item)
		if !bytes.Equal(b, encode(x.item)) {
			t.Errorf("%d deep: encoded as %x", depth(x.item), b)
		}
		if !x.ok {
			checkFails(t, b)
			continue
		}
		if y, e := rlp.Decode(b); e != api.OK || !same(x.item, y) {
			t.Errorf("%d deep: %v, %v", depth(x.item), y, e)
		}
	}
}

// TestGreat has what would take too long, or too deep a stack, if a level cost more than its own bytes.
func TestGreat(t *testing.T) {
	checkFails(t, bytes.Repeat([]byte{0xc1}, 1<<20))
	checkFails(t, bytes.Repeat([]byte{0xff}, 1<<20))
	b := rlp.Encode(nest(1<<16, str(a(1<<20))))
	if len(b) < 1<<20+1<<18 || !bytes.HasSuffix(b, append([]byte{0xba, 0x10, 0, 0}, a(1<<20)...)) {
		t.Errorf("%d bytes", len(b))
	}
	checkFails(t, b)
}
