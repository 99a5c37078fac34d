package sha

import (
	"math/bits"

	"quaestor/api"
)

const (
	parts  = 8
	rounds = 64
)

// state is the chapter's H0 to H7; while a block goes in, its a to h.
type state [parts]uint32

// start is the state ahead of all blocks.
var start = state{0x6a09e667, 0xbb67ae85, 0x3c6ef372, 0xa54ff53a, 0x510e527f, 0x9b05688c, 0x1f83d9ab, 0x5be0cd19}

// keys are what the rounds put in: the chapter's K.
var keys = [rounds]uint32{
	0x428a2f98, 0x71374491, 0xb5c0fbcf, 0xe9b5dba5, 0x3956c25b, 0x59f111f1, 0x923f82a4, 0xab1c5ed5,
	0xd807aa98, 0x12835b01, 0x243185be, 0x550c7dc3, 0x72be5d74, 0x80deb1fe, 0x9bdc06a7, 0xc19bf174,
	0xe49b69c1, 0xefbe4786, 0x0fc19dc6, 0x240ca1cc, 0x2de92c6f, 0x4a7484aa, 0x5cb0a9dc, 0x76f988da,
	0x983e5152, 0xa831c66d, 0xb00327c8, 0xbf597fc7, 0xc6e00bf3, 0xd5a79147, 0x06ca6351, 0x14292967,
	0x27b70a85, 0x2e1b2138, 0x4d2c6dfc, 0x53380d13, 0x650a7354, 0x766a0abb, 0x81c2c92e, 0x92722c85,
	0xa2bfe8a1, 0xa81a664b, 0xc24b8b70, 0xc76c51a3, 0xd192e819, 0xd6990624, 0xf40e3585, 0x106aa070,
	0x19a4c116, 0x1e376c08, 0x2748774c, 0x34b0bcb5, 0x391c0cb3, 0x4ed8aa4a, 0x5b9cca4f, 0x682e6ff3,
	0x748f82ee, 0x78a5636f, 0x84c87814, 0x8cc70208, 0x90befffa, 0xa4506ceb, 0xbef9a3f7, 0xc67178f2,
}

// absorb takes in a block of the message.
func (s *state) absorb(b block) {
	words := stretch(b)
	r := *s
	for t := range rounds {
		r.turn(keys[t] + words[t])
	}
	for i := range parts {
		s[i] += r[i]
	}
}

// stretch is a word for each round: the block's own, and those that grow out of them.
func stretch(b block) [rounds]uint32 {
	var w [rounds]uint32
	for i := range size {
		w[i/4] = w[i/4]<<8 | uint32(b[i])
	}
	for t := size / 4; t < rounds; t++ {
		w[t] = shuffle1(w[t-2]) + w[t-7] + shuffle0(w[t-15]) + w[t-16]
	}
	return w
}

// turn is one round, with its key and word.
func (s *state) turn(in uint32) {
	a, b, c, e, f, g := s[0], s[1], s[2], s[4], s[5], s[6]
	t1 := s[7] + (rot(e, 6) ^ rot(e, 11) ^ rot(e, 25)) + (e&f ^ ^e&g) + in
	t2 := (rot(a, 2) ^ rot(a, 13) ^ rot(a, 22)) + (a&b ^ a&c ^ b&c)
	*s = state{t1 + t2, a, b, c, s[3] + t1, e, f, g}
}

func shuffle0(v uint32) uint32 { return rot(v, 7) ^ rot(v, 18) ^ v>>3 }

func shuffle1(v uint32) uint32 { return rot(v, 17) ^ rot(v, 19) ^ v>>10 }

// rot turns v right by n bits.
func rot(v uint32, n int) uint32 { return bits.RotateLeft32(v, -n) }

// hash is what the state tells.
func (s *state) hash() api.Word {
	var w api.Word
	for i := range len(w) {
		w[len(w)-1-i] = uint64(s[2*i])<<32 | uint64(s[2*i+1])
	}
	return w
}
