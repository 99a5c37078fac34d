// Package sample has what the tests of several packages share. No layer imports it.
package sample

import (
	"bytes"
	"errors"
	"slices"
	"strconv"

	"quaestor/api"
)

// Noise is n bytes without a rule, but for each seed always the same ones.
func Noise(n int, seed uint64) []byte {
	b := make([]byte, n)
	for i := range b {
		seed = seed*6364136223846793005 + 1442695040888963407
		b[i] = byte(seed >> 56)
	}
	return b
}

// TakesOnly tells what a hash does with a message and its beginnings beside reading them; nil: nothing.
func TakesOnly(hash func([]byte) api.Word, m []byte) error {
	given := bytes.Clone(m)
	for n := range len(given) + 1 {
		first := hash(given[:n])
		switch {
		case !bytes.Equal(given, m):
			return errors.New(strconv.Itoa(n) + " bytes: the argument was changed")
		case first != hash(slices.Clip(bytes.Clone(m[:n]))):
			return errors.New(strconv.Itoa(n) + " bytes: what stands behind them counts")
		case n == 0:
			continue
		}
		given[0] ^= 1
		other := hash(given[:n])
		given[0] ^= 1
		if other == first || hash(given[:n]) != first {
			return errors.New(strconv.Itoa(n) + " bytes: the argument was kept")
		}
	}
	if hash(nil) != hash([]byte{}) {
		return errors.New("no bytes, and none: not the same")
	}
	return nil
}

// Bits are the messages of n bytes in which one bit stands.
func Bits(n int) [][]byte {
	var l [][]byte
	for i := range 8 * n {
		m := make([]byte, n)
		m[i/8] = 1 << (i % 8)
		l = append(l, m)
	}
	return l
}

// Distinct tells which two messages have the same hash; nil: none.
func Distinct(hash func([]byte) api.Word, messages [][]byte) error {
	seen := map[api.Word]int{}
	for i, m := range messages {
		if j, ok := seen[hash(m)]; ok {
			return errors.New("messages " + strconv.Itoa(j) + " and " + strconv.Itoa(i) + " have the same hash")
		}
		seen[hash(m)] = i
	}
	return nil
}

// Dice draws numbers without a rule, but for each start always the same ones.
type Dice uint64

// Below is a number below n, from 0 on.
func (d *Dice) Below(n int) int {
	*d = *d*6364136223846793005 + 1442695040888963407
	return int(uint64(*d) >> 33 % uint64(n))
}
