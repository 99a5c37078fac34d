package word

import "quaestor/api"

// size is how many bits a word has.
const size = 64 * parts

// Extend is a word whose sign stands in byte k.
func Extend(k, a api.Word) api.Word {
	n := atMost(k, 31)
	up := From(uint64(8 * (31 - n)))
	return Sar(up, Shl(up, a))
}

// Shl is a, shifted up by n bits.
func Shl(n, a api.Word) api.Word {
	skip, rest := split(n)
	return build(func(i int) uint64 {
		return partAt(a, i-skip, 0)<<rest | partAt(a, i-skip-1, 0)>>(64-rest)
	})
}

// Shr is a, shifted down by n bits.
func Shr(n, a api.Word) api.Word { return shiftDown(n, a, 0) }

// Sar is a, shifted down by n bits as a signed word.
func Sar(n, a api.Word) api.Word {
	if negative(a) {
		return shiftDown(n, a, ^uint64(0))
	}
	return shiftDown(n, a, 0)
}

// Byte is byte k, counted from the highest one.
func Byte(k, a api.Word) api.Word {
	n := atMost(k, 32)
	if n == 32 {
		return api.Word{}
	}
	return From(uint64(lowByte(a, 31-n)))
}

// shiftDown is a, shifted down by n bits, where above it stand parts that are all fill.
func shiftDown(n, a api.Word, fill uint64) api.Word {
	skip, rest := split(n)
	return build(func(i int) uint64 {
		return partAt(a, i+skip, fill)>>rest | partAt(a, i+skip+1, fill)<<(64-rest)
	})
}

// split is a shift by whole parts, and by bits. No shift by more than a word's size does more than that one.
func split(n api.Word) (int, int) {
	s := atMost(n, size)
	return s / 64, s % 64
}

// atMost is a word as a number, or the bound, if the word is greater.
func atMost(a api.Word, bound int) int {
	n, ok := Small(a)
	if !ok {
		return bound
	}
	return int(min(n, uint64(bound)))
}

// build is the word whose parts a function tells.
func build(part func(i int) uint64) api.Word {
	var a api.Word
	for i := range parts {
		a[i] = part(i)
	}
	return a
}

// partAt is part i of a word: 0 below it, fill above it.
func partAt(a api.Word, i int, fill uint64) uint64 {
	switch {
	case i < 0:
		return 0
	case i >= parts:
		return fill
	default:
		return a[i]
	}
}
