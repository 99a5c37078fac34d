// Package word is layer 1: see shared/doc/01-word.md.
package word

import "quaestor/api"

// parts is how many parts of 64 bits a word has.
const parts = 4

// From is a number as a word.
func From(n uint64) api.Word { return api.Word{n} }

// Bytes is a word's 32 bytes, the highest first.
func Bytes(a api.Word) []byte {
	b := make([]byte, 8*parts)
	for i := range 8 * parts {
		b[len(b)-1-i] = lowByte(a, i)
	}
	return b
}

// Read is the word of bytes, the highest first: of more than 32 the last ones.
func Read(b []byte) api.Word {
	b = b[max(0, len(b)-8*parts):]
	var a api.Word
	for i := range len(b) {
		a[i/8] |= uint64(b[len(b)-1-i]) << (i % 8 * 8)
	}
	return a
}

// Small is a word as a number; false: it is too great.
func Small(a api.Word) (uint64, bool) {
	if a != From(a[0]) {
		return 0, false
	}
	return a[0], true
}

// Addr is a word's lowest twenty bytes.
func Addr(a api.Word) api.Address {
	var r api.Address
	for i := range len(r) {
		r[len(r)-1-i] = lowByte(a, i)
	}
	return r
}

// Wide is an address as a word.
func Wide(a api.Address) api.Word { return Read(a[:]) }

// Cmp compares words: -1, 0, 1.
func Cmp(a, b api.Word) int {
	if a == b {
		return 0
	}
	if _, below := Sub(a, b); below {
		return -1
	}
	return 1
}

// Scmp compares words as signed ones.
func Scmp(a, b api.Word) int {
	if negative(a) != negative(b) {
		return Cmp(b, a) // the one with the sign is the greater one, as it stands
	}
	return Cmp(a, b)
}

// lowByte is byte i of a word, counted from the lowest one.
func lowByte(a api.Word, i int) byte { return byte(a[i/8] >> (i % 8 * 8)) }

// negative says whether a word is below 0, as a signed one.
func negative(a api.Word) bool { return a[parts-1]>>63 == 1 }
