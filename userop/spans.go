package userop

import (
	"quaestor/api"
	"quaestor/word"
)

// timeBits is how many bits a time has in a validation's word.
const timeBits = 48

// Spans is what a validation's word says.
func Spans(a api.Word) api.Span {
	return api.Span{
		Bad:   word.Addr(a) != api.Address{},
		After: timeAt(a, 256-timeBits),
		Until: timeAt(a, 256-2*timeBits),
	}
}

// Now says whether that holds at a time.
func Now(s api.Span, time uint64) bool {
	return !s.Bad && s.After <= time && (s.Until == 0 || time <= s.Until)
}

// timeAt is the time that begins with some bit of a word.
func timeAt(a api.Word, bit uint64) uint64 {
	return word.Shr(word.From(bit), a)[0] & (1<<timeBits - 1)
}
