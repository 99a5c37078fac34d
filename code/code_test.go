package code_test

import (
	"bytes"
	"slices"
	"testing"

	"quaestor/api"
	"quaestor/code"
	"quaestor/sample"
)

// The calls have the signatures that the chapter lists.
var (
	_ func(byte) (int, int, bool)             = code.Info
	_ func([]byte, uint64) byte               = code.At
	_ func([]byte, uint64) (api.Word, uint64) = code.Push
	_ func([]byte) []uint64                   = code.Jumps
	_ func([]byte, api.Word) bool             = code.May
)

const most uint64 = 1<<64 - 1

// far are places past the end of whatever code is tested here.
var far = []uint64{1 << 20, 1<<31 - 1, 1 << 31, 1<<32 - 1, 1 << 32, 1<<63 - 1, 1 << 63, most - 33, most - 32, most - 1, most}

// dice draws code, too.
type dice struct{ sample.Dice }

// code is of n bytes, most of which are JUMPDESTs or PUSHes of few bytes or of many.
func (d *dice) code(n int) []byte {
	b := make([]byte, n)
	for i := range b {
		switch d.Below(5) {
		case 0:
			b[i] = byte(d.Below(256))
		case 1:
			b[i] = 0x60 + byte(d.Below(4))
		case 2:
			b[i] = 0x5f + byte(d.Below(33))
		default:
			b[i] = 0x5b
		}
	}
	return b
}

// codes are the short ones of the bytes that matter, and drawn ones.
func codes() [][]byte {
	l := [][]byte{nil}
	short := [][]byte{nil}
	for range 5 {
		var longer [][]byte
		for _, s := range short {
			for _, b := range []byte{0x00, 0x5a, 0x5b, 0x5c, 0x5f, 0x60, 0x61} {
				longer = append(longer, append(bytes.Clone(s), b))
			}
		}
		l = append(l, longer...)
		short = longer
	}
	d := dice{1}
	for n := range 300 {
		l = append(l, d.code(n))
	}
	return append(l, d.code(24576), sample.Noise(5000, 2))
}

// held is how many bytes stand behind an operation, in the chapter's words: n behind PUSHn.
func held(op byte) int {
	for n := range 33 {
		if op == 0x5f+byte(n) {
			return n
		}
	}
	return 0
}

// operations says for each place of code whether the traversal comes to it: byte by byte, with a count of those that it is to pass over.
func operations(b []byte) []bool {
	l := make([]bool, len(b))
	over := 0
	for i, op := range b {
		if over > 0 {
			over--
			continue
		}
		l[i] = true
		over = held(op)
	}
	return l
}

func TestInfo(t *testing.T) {
	var known [256]bool
	for _, o := range sample.Operations() {
		known[o.Op] = true
		if takes, gives, ok := code.Info(o.Op); takes != o.Takes || gives != o.Gives || !ok {
			t.Errorf("%s: %d, %d, %v, not %d, %d", o.Name, takes, gives, ok, o.Takes, o.Gives)
		}
	}
	for i, is := range known {
		if takes, gives, ok := code.Info(byte(i)); !is && (takes != 0 || gives != 0 || ok) {
			t.Errorf("%x: %d, %d, %v", i, takes, gives, ok)
		}
	}
}

func TestInfoEdges(t *testing.T) {
	for _, x := range []struct {
		op           byte
		takes, gives int
		ok           bool
	}{
		{0x00, 0, 0, true}, {0x0b, 2, 1, true}, {0x0c, 0, 0, false}, {0x0f, 0, 0, false}, {0x1d, 2, 1, true}, {0x1e, 0, 0, false},
		{0x20, 2, 1, true}, {0x21, 0, 0, false}, {0x2f, 0, 0, false}, {0x48, 0, 1, true}, {0x49, 0, 0, false}, {0x4f, 0, 0, false},
		{0x5b, 0, 0, true}, {0x5c, 0, 0, false}, {0x5e, 0, 0, false}, {0x5f, 0, 1, true}, {0x7f, 0, 1, true},
		{0x80, 1, 2, true}, {0x81, 2, 3, true}, {0x8f, 16, 17, true}, {0x90, 2, 2, true}, {0x9f, 17, 17, true},
		{0xa0, 2, 0, true}, {0xa4, 6, 0, true}, {0xa5, 0, 0, false}, {0xef, 0, 0, false}, {0xf5, 4, 1, true}, {0xf6, 0, 0, false},
		{0xf9, 0, 0, false}, {0xfb, 0, 0, false}, {0xfc, 0, 0, false}, {0xfe, 0, 0, false}, {0xff, 1, 0, true},
	} {
		if takes, gives, ok := code.Info(x.op); takes != x.takes || gives != x.gives || ok != x.ok {
			t.Errorf("%x: %d, %d, %v", x.op, takes, gives, ok)
		}
	}
}

func TestAt(t *testing.T) {
	for _, b := range [][]byte{nil, {}, {7}, {0x60, 0xff}, sample.Noise(300, 3)} {
		for i, op := range b {
			if got := code.At(b, uint64(i)); got != op {
				t.Errorf("%x at %d: %x", b, i, got)
			}
		}
		for _, pc := range append([]uint64{uint64(len(b)), uint64(len(b)) + 1}, far...) {
			if got := code.At(b, pc); got != 0 {
				t.Errorf("%x at %d: %x", b, pc, got)
			}
		}
	}
}

func TestJumps(t *testing.T) {
	for _, x := range []struct {
		code []byte
		want []uint64
	}{
		{nil, nil},
		{[]byte{}, nil},
		{[]byte{0x00}, nil},
		{[]byte{0x5b}, []uint64{0}},
		{[]byte{0x5b, 0x5b}, []uint64{0, 1}},
		{[]byte{0x5b, 0x60, 0x5b, 0x5b}, []uint64{0, 3}},
		{[]byte{0x5f, 0x5b}, []uint64{1}},
		{[]byte{0x60, 0x5b}, nil},
		{[]byte{0x60}, nil},
		{[]byte{0x60, 0x60, 0x5b}, []uint64{2}},
		{[]byte{0x61, 0x5b, 0x5b, 0x5b}, []uint64{3}},
		{[]byte{0xfe, 0x5b, 0x00, 0x5b}, []uint64{1, 3}},                // what is not known, and what ends a frame, is passed as any other
		{[]byte{0x80, 0x5b, 0x9f, 0x5b, 0xa4, 0x5b}, []uint64{1, 3, 5}}, // these have nothing with them
	} {
		if got := code.Jumps(x.code); !slices.Equal(got, x.want) {
			t.Errorf("%x: %v, not %v", x.code, got, x.want)
		}
	}
	for n := range 33 {
		b := append([]byte{0x5f + byte(n)}, bytes.Repeat([]byte{0x5b}, n+2)...)
		if got := code.Jumps(b); !slices.Equal(got, []uint64{uint64(n) + 1, uint64(n) + 2}) {
			t.Errorf("PUSH%d: %v", n, got)
		}
		if got := code.Jumps(b[:n+1]); len(got) > 0 {
			t.Errorf("PUSH%d, and no more: %v", n, got)
		}
	}
	for _, b := range codes() {
		var want []uint64
		for i, is := range operations(b) {
			if is && b[i] == 0x5b {
				want = append(want, uint64(i))
			}
		}
		if got := code.Jumps(b); !slices.Equal(got, want) {
			t.Errorf("%x: %v, not %v", b, got, want)
		}
	}
}

func TestMay(t *testing.T) {
	for _, b := range codes() {
		all := operations(b)
		for i := 0; i < len(b); i += 1 + len(b)/300 { // each answer goes through the code: of a long one, places here and there
			if got := code.May(b, api.Word{uint64(i)}); got != (all[i] && b[i] == 0x5b) {
				t.Errorf("%x to %d: %v", b, i, got)
			}
		}
		for _, to := range append([]uint64{uint64(len(b)), uint64(len(b)) + 1}, far...) {
			if code.May(b, api.Word{to}) {
				t.Errorf("%x to %d: past the end", b, to)
			}
		}
	}
}

// TestMayFar shows that a place is a whole word, of which no part is cut off.
func TestMayFar(t *testing.T) {
	b := bytes.Repeat([]byte{0x5b}, 100)
	for i := range uint64(len(b)) {
		for _, to := range []api.Word{{i, 1}, {i, 0, 1}, {i, 0, 0, 1}, {i, most, most, most}, {i + 1<<8}, {i + 1<<16}, {i + 1<<32}, {i + 1<<63}, {-i - 1}} {
			if code.May(b, to) {
				t.Errorf("to %x", to)
			}
		}
		if !code.May(b, api.Word{i}) {
			t.Errorf("to %d: not", i)
		}
	}
	if code.May(nil, api.Word{}) || code.May([]byte{}, api.Word{}) {
		t.Error("no code")
	}
}

// TestCode shows that code is neither changed nor kept, that what stands behind its end counts for nothing, and that answers are new.
func TestCode(t *testing.T) {
	given := append(bytes.Repeat([]byte{0x5b, 0x62}, 20), sample.Noise(30, 4)...)
	b := bytes.Clone(given)
	for n := range len(b) + 1 {
		first := code.Jumps(b[:n])
		kept := slices.Clone(first)
		clear(first[:cap(first)])
		if got := code.Jumps(b[:n]); !slices.Equal(got, kept) || !slices.Equal(kept, code.Jumps(slices.Clip(bytes.Clone(b[:n])))) {
			t.Errorf("%d bytes: jumps %v", n, got)
		}
		for pc := range uint64(n) + 2 {
			if got, size := code.Push(b[:n], pc); got != pushed(b[:n], pc) || size != uint64(held(code.At(b[:n], pc))) {
				t.Errorf("%d bytes, at %d: %x, %d", n, pc, got, size)
			}
			if may := code.May(b[:n], api.Word{pc}); may != slices.Contains(kept, pc) {
				t.Errorf("%d bytes, to %d: %v", n, pc, may)
			}
		}
		if code.At(b[:n], uint64(n)) != 0 {
			t.Errorf("%d bytes: more", n)
		}
		if !bytes.Equal(b, given) {
			t.Fatalf("%d bytes: the argument was changed", n)
		}
		clear(b)
		if len(code.Jumps(b[:n])) > 0 {
			t.Errorf("%d bytes: the argument was kept", n)
		}
		copy(b, given)
	}
}
