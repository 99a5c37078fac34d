package sha_test

import (
	"bytes"
	"crypto/sha256"
	"encoding/hex"
	"strconv"
	"strings"
	"testing"

	"quaestor/api"
	"quaestor/sample"
	"quaestor/sha"
	"quaestor/word"
)

// The call has the signature that the chapter lists.
var _ func([]byte) api.Word = sha.Sum

// size is that of a block: the edge of all lengths.
const size = 64

// check holds the hash of a message against the library's.
func check(t *testing.T, m []byte) {
	t.Helper()
	got, want := word.Bytes(sha.Sum(m)), sha256.Sum256(m)
	if !bytes.Equal(got, want[:]) {
		t.Fatalf("%d bytes, %x: %x, not %x", len(m), m[:min(len(m), 200)], got, want)
	}
}

// checkAll checks messages, no two of which may have the same hash.
func checkAll(t *testing.T, messages [][]byte) {
	t.Helper()
	for _, m := range messages {
		check(t, m)
	}
	if err := sample.Distinct(sha.Sum, messages); err != nil {
		t.Error(err)
	}
}

func TestKnown(t *testing.T) {
	for _, x := range [][2]string{
		{"", "e3b0c44298fc1c149afbf4c8996fb92427ae41e4649b934ca495991b7852b855"},
		{"abc", "ba7816bf8f01cfea414140de5dae2223b00361a396177a9cb410ff61f20015ad"},
		{"abcdbcdecdefdefgefghfghighijhijkijkljklmklmnlmnomnopnopq", "248d6a61d20638b8e5c026930c3e6039a33ce45964ff2167f6ecedd419db06c1"},
		{"abcdefghbcdefghicdefghijdefghijkefghijklfghijklmghijklmnhijklmnoijklmnopjklmnopqklmnopqrlmnopqrsmnopqrstnopqrstu", "cf5b16a778af8380036ce59e7b0492370b249b11e8f07a51afac45037afee9d1"},
		{"The quick brown fox jumps over the lazy dog", "d7a8fbb307d7809469ca9abcb0082e4f8d5651e46d3cdb762d02d0bf37c9e592"},
		{"\xbd", "68325720aabd7c82f30f554b313d0570c95accbb7dc4b5aae11204c08ffe732b"},
		{strings.Repeat("a", 1000000), "cdc76e5c9914fb9281a1c7e284d73e67f1809a48a497200e046d39ccc7112cd0"},
	} {
		if got := hex.EncodeToString(word.Bytes(sha.Sum([]byte(x[0])))); got != x[1] {
			t.Errorf("%.60q: %s", x[0], got)
		}
	}
}

// TestWord shows which end of the hash is the word's highest.
func TestWord(t *testing.T) {
	want := api.Word{0xb410ff61f20015ad, 0xb00361a396177a9c, 0x414140de5dae2223, 0xba7816bf8f01cfea}
	if got := sha.Sum([]byte("abc")); got != want {
		t.Errorf("%x, not %x", got, want)
	}
}

// TestLengths goes over all lengths up to four blocks, where the padding takes one block more or none, and over some that fill the length's bytes.
func TestLengths(t *testing.T) {
	for n := range 4*size + 2 {
		check(t, sample.Noise(n, 1))
		check(t, make([]byte, n))
		check(t, bytes.Repeat([]byte{0xff}, n))
	}
	for _, n := range []int{1<<13 - 1, 1 << 13, 1 << 16, 1<<21 - 1, 1 << 21, 1<<21 + 55, 1<<21 + 56} {
		check(t, sample.Noise(n, 2))
	}
}

// TestBits sets each bit of a block alone, so that none is lost or goes to another one's place.
func TestBits(t *testing.T) {
	checkAll(t, sample.Bits(size))
}

// TestPadding holds messages against those that their padding could be taken for.
func TestPadding(t *testing.T) {
	checkAll(t, [][]byte{
		{},
		{0x80},
		{0x00},
		{0x80, 0x00},
		append([]byte{0x80}, make([]byte, size-1)...),
		sample.Noise(size-9, 3),
		append(sample.Noise(size-9, 3), 0x80),
		append(sample.Noise(size-9, 3), 0x80, 0, 0, 0, 0, 0, 0, 0x01, 0xb8),
		sample.Noise(size-8, 3),
		append(sample.Noise(size-8, 3), 0x80),
		sample.Noise(size, 3),
		append(sample.Noise(size, 3), 0x80),
	})
}

func TestArgument(t *testing.T) {
	if err := sample.TakesOnly(sha.Sum, sample.Noise(3*size, 4)); err != nil {
		t.Error(err)
	}
}

func BenchmarkSum(b *testing.B) {
	for _, n := range []int{64, 1 << 16} {
		m := sample.Noise(n, 5)
		b.Run(strconv.Itoa(n), func(b *testing.B) {
			for b.Loop() {
				sha.Sum(m)
			}
		})
	}
}
