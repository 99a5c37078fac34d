package keccak

import (
	"math/bits"

	"quaestor/api"
	"quaestor/word"
)

const (
	side   = 5
	lanes  = side * side
	rounds = 24
)

// state is what a message is absorbed into: L(x, y) stands at 5 y + x.
type state [lanes]uint64

// keys are what the rounds put into the first lane: the chapter's K.
var keys = [rounds]uint64{
	0x0000000000000001, 0x0000000000008082, 0x800000000000808a, 0x8000000080008000,
	0x000000000000808b, 0x0000000080000001, 0x8000000080008081, 0x8000000000008009,
	0x000000000000008a, 0x0000000000000088, 0x0000000080008009, 0x000000008000000a,
	0x000000008000808b, 0x800000000000008b, 0x8000000000008089, 0x8000000000008003,
	0x8000000000008002, 0x8000000000000080, 0x000000000000800a, 0x800000008000000a,
	0x8000000080008081, 0x8000000000008080, 0x0000000080000001, 0x8000000080008008,
}

// path is where step 2's walk over the lanes, from L(1, 0) on, goes.
var path = [lanes - 1]uint8{10, 7, 11, 17, 18, 3, 5, 16, 8, 21, 24, 4, 15, 23, 19, 13, 12, 2, 20, 14, 22, 9, 6, 1}

// absorb takes in a block of the message.
func (s *state) absorb(block [rate]byte) {
	for i := range rate / 8 {
		for j := range 8 {
			s[i] ^= uint64(block[8*i+j]) << (8 * j)
		}
	}
	s.permute()
}

// permute does all rounds.
func (s *state) permute() {
	for i := range rounds {
		s.spread()
		s.move()
		s.bend()
		s[0] ^= keys[i]
	}
}

// spread is step 1 of a round: each lane takes in the columns beside its own.
func (s *state) spread() {
	var c [side]uint64
	for x := range side {
		c[x] = s[x] ^ s[x+side] ^ s[x+2*side] ^ s[x+3*side] ^ s[x+4*side]
	}
	for x := range side {
		d := c[(x+4)%side] ^ bits.RotateLeft64(c[(x+1)%side], 1)
		for y := range side {
			s[side*y+x] ^= d
		}
	}
}

// move is step 2. The walk that tells R goes to where B puts the lanes, so that one walk does both.
func (s *state) move() {
	lane := s[1]
	for t := range lanes - 1 {
		i := path[t]
		s[i], lane = bits.RotateLeft64(lane, (t+1)*(t+2)/2), s[i]
	}
}

// bend is step 3: each lane takes in the two behind it in its row.
func (s *state) bend() {
	for y := range side {
		row := s[side*y : side*y+side]
		b := [side]uint64(row)
		row[0] ^= ^b[1] & b[2]
		row[1] ^= ^b[2] & b[3]
		row[2] ^= ^b[3] & b[4]
		row[3] ^= ^b[4] & b[0]
		row[4] ^= ^b[0] & b[1]
	}
}

// hash is what the first four lanes tell.
func (s *state) hash() api.Word {
	var b [32]byte
	for i := range len(b) {
		b[i] = byte(s[i/8] >> (i % 8 * 8))
	}
	return word.Read(b[:])
}
