package keccak_test

import (
	"bytes"
	"crypto/sha3"
	"encoding/hex"
	"slices"
	"strconv"
	"strings"
	"testing"

	"quaestor/api"
	"quaestor/keccak"
	"quaestor/sample"
	"quaestor/word"
)

// The calls have the signatures that the chapter lists.
var (
	_ func([]byte) api.Word      = keccak.Sum
	_ func(...api.Word) api.Word = keccak.Join
)

// rate is the size of a block: the edge of all lengths.
const rate = 136

// square is the chapter's state: L(x, y), x first.
type square [5][5]uint64

// permute goes by the chapter's words, step by step, with its own walk and its own G.
func (l *square) permute() {
	g := 1
	for range 24 {
		var c [5]uint64
		for x := range 5 {
			for y := range 5 {
				c[x] ^= l[x][y]
			}
		}
		for x := range 5 {
			for y := range 5 {
				l[x][y] ^= c[(x+4)%5] ^ rot(c[(x+1)%5], 1)
			}
		}
		var r [5][5]int
		x, y := 1, 0
		for t := range 24 {
			r[x][y] = (t + 1) * (t + 2) / 2 % 64
			x, y = y, (2*x+3*y)%5
		}
		var b square
		for x := range 5 {
			for y := range 5 {
				b[y][(2*x+3*y)%5] = rot(l[x][y], r[x][y])
			}
		}
		for x := range 5 {
			for y := range 5 {
				l[x][y] = b[x][y] ^ ^b[(x+1)%5][y]&b[(x+2)%5][y]
			}
		}
		for j := range 7 {
			l[0][0] ^= uint64(g&1) << (1<<j - 1)
			if g *= 2; g >= 256 {
				g ^= 0x171
			}
		}
	}
}

// rot turns v left by n bits, one by one.
func rot(v uint64, n int) uint64 {
	for range n {
		v = v<<1 | v>>63
	}
	return v
}

// byChapter is the hash as the chapter tells it, with the first byte behind the message as it is given: the only thing in which SHA3-256 differs.
func byChapter(m []byte, pad byte) []byte {
	m = append(bytes.Clone(m), pad)
	for len(m)%rate != 0 {
		m = append(m, 0)
	}
	m[len(m)-1] ^= 0x80
	var l square
	for ; len(m) > 0; m = m[rate:] {
		for i := range 17 {
			for j := range 8 {
				l[i%5][i/5] ^= uint64(m[8*i+j]) << (8 * j)
			}
		}
		l.permute()
	}
	var h []byte
	for x := range 4 {
		for j := range 8 {
			h = append(h, byte(l[x][0]>>(8*j)))
		}
	}
	return h
}

// lengths are all up to four blocks, and some behind those.
func lengths() []int {
	var l []int
	for n := range 4*rate + 2 {
		l = append(l, n)
	}
	return append(l, 10*rate-1, 10*rate, 10*rate+1, 5000)
}

// check holds the hash of a message against that of the chapter's steps.
func check(t *testing.T, m []byte) {
	t.Helper()
	got, want := word.Bytes(keccak.Sum(m)), byChapter(m, 0x01)
	if !bytes.Equal(got, want) {
		t.Fatalf("%d bytes, %x: %x, not %x", len(m), m[:min(len(m), 200)], got, want)
	}
}

// checkAll checks messages, no two of which may have the same hash.
func checkAll(t *testing.T, messages [][]byte) {
	t.Helper()
	for _, m := range messages {
		check(t, m)
	}
	if err := sample.Distinct(keccak.Sum, messages); err != nil {
		t.Error(err)
	}
}

// TestChapter shows that byChapter can be trusted: with the other byte it is the library's SHA3-256.
func TestChapter(t *testing.T) {
	for _, n := range lengths() {
		m := sample.Noise(n, 1)
		want := sha3.Sum256(m)
		if got := byChapter(m, 0x06); !bytes.Equal(got, want[:]) {
			t.Fatalf("%d bytes: %x, not %x", n, got, want)
		}
	}
}

func TestKnown(t *testing.T) {
	for _, x := range [][2]string{
		{"", "c5d2460186f7233c927e7db2dcc703c0e500b653ca82273b7bfad8045d85a470"},
		{"abc", "4e03657aea45a94fc7d47ba826c8d667c0d1e6e33a64a036ec44f58fa12d6c45"},
		{"\x80", "56e81f171bcc55a6ff8345e692c0f86e5b48e01b996cadc001622fb5e363b421"},
		{"\xc0", "1dcc4de8dec75d7aab85b567b6ccd41ad312451b948a7413f0a142fd40d49347"},
		{"The quick brown fox jumps over the lazy dog", "4d741b6f1eb29cb2a9b9911c82f56fa8d73b04959d3d9d222895df6c0b28aa15"},
		{"The quick brown fox jumps over the lazy dog.", "578951e24efd62a3d63a86f7cd19aaa53c898fe287d2552133220370240b572d"},
		{"transfer(address,uint256)", "a9059cbb2ab09eb219583f4a59a5d0623ade346d962bcd4e46b11da047c9049b"},
		{"Transfer(address,address,uint256)", "ddf252ad1be2c89b69c2b068fc378daa952ba7f163c4a11628f55a4df523b3ef"},
	} {
		want, err := hex.DecodeString(x[1])
		if err != nil {
			t.Fatal(err)
		}
		if got := word.Bytes(keccak.Sum([]byte(x[0]))); !bytes.Equal(got, want) {
			t.Errorf("%q: %x", x[0], got)
		}
	}
}

func TestLengths(t *testing.T) {
	for _, n := range lengths() {
		check(t, sample.Noise(n, 2))
		check(t, make([]byte, n))
		check(t, bytes.Repeat([]byte{0xff}, n))
	}
	check(t, []byte(strings.Repeat("a", 300000)))
}

// TestBits sets each bit of a block alone, so that none is lost or goes to another one's place.
func TestBits(t *testing.T) {
	checkAll(t, sample.Bits(rate))
}

// TestPadding holds messages against those that their padding could be taken for.
func TestPadding(t *testing.T) {
	checkAll(t, [][]byte{
		{},
		{0x01},
		{0x00},
		sample.Noise(rate-1, 3),
		append(sample.Noise(rate-1, 3), 0x81),
		append(sample.Noise(rate-1, 3), 0x00),
		sample.Noise(rate-2, 3),
		append(sample.Noise(rate-2, 3), 0x01),
		append(sample.Noise(rate-2, 3), 0x01, 0x80),
		sample.Noise(rate, 3),
		append(sample.Noise(rate, 3), 0x01),
		append(append(sample.Noise(rate, 3), 0x01), make([]byte, rate-1)...),
	})
}

func TestSumArgument(t *testing.T) {
	if err := sample.TakesOnly(keccak.Sum, sample.Noise(3*rate, 4)); err != nil {
		t.Error(err)
	}
}

func TestJoin(t *testing.T) {
	if keccak.Join() != keccak.Sum(nil) {
		t.Error("no words")
	}
	for n := range 20 { // 17 words are four blocks
		var l []api.Word
		var m []byte
		for i := range n {
			b := sample.Noise(32, uint64(100*n+i))
			l = append(l, word.Read(b))
			m = append(m, b...)
		}
		kept := slices.Clone(l)
		if keccak.Join(l...) != keccak.Sum(m) {
			t.Errorf("%d words", n)
		}
		if !slices.Equal(l, kept) {
			t.Errorf("%d words: the argument was changed", n)
		}
	}
}

func TestJoinKnown(t *testing.T) {
	for _, x := range []struct {
		words []api.Word
		want  string
	}{
		{[]api.Word{{}}, "290decd9548b62a8d60345a988386fc84ba6bc95484008f6362f93160ef3e563"},
		{[]api.Word{{1}}, "b10e2d527612073b26eecdfd717e6a320cf44b4afac2b0732d9fcbe2b7fa0cf6"},
		{[]api.Word{{}, {}}, "ad3228b676f7d3cd4284a5443f17f1962b36e491b30a40b2405849e597ba5fb5"},
	} {
		if got := hex.EncodeToString(word.Bytes(keccak.Join(x.words...))); got != x.want {
			t.Errorf("%x: %s", x.words, got)
		}
	}
}

func TestJoinArgument(t *testing.T) {
	l := []api.Word{{1}, {2}, {3}}
	if keccak.Join(l[:2]...) != keccak.Join(api.Word{1}, api.Word{2}) {
		t.Error("what stands behind the words counts")
	}
	if keccak.Join(api.Word{1}, api.Word{2}) == keccak.Join(api.Word{2}, api.Word{1}) {
		t.Error("the order of the words does not count")
	}
	if keccak.Join(api.Word{}) == keccak.Join() {
		t.Error("a word that is 0 does not count")
	}
}

func BenchmarkSum(b *testing.B) {
	for _, n := range []int{64, 1 << 16} {
		m := sample.Noise(n, 5)
		b.Run(strconv.Itoa(n), func(b *testing.B) {
			for b.Loop() {
				keccak.Sum(m)
			}
		})
	}
}
