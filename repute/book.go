package repute

import (
	"bytes"
	"math"
	"slices"
	"sort"

	"quaestor/api"
)

// book is the one that a list stands for, in memory of its own. An entry that counts nothing still replaces those ahead of it.
func book(l []api.Fame) []api.Fame {
	b := slices.Clone(l)
	slices.SortStableFunc(b, func(f, g api.Fame) int { return compare(f.Addr, g.Addr) })
	kept := b[:0]
	for i, f := range b {
		replaced := i+1 < len(b) && b[i+1].Addr == f.Addr
		if !replaced && (f.Seen != 0 || f.Included != 0) {
			kept = append(kept, f)
		}
	}
	return kept
}

// search is where in a book an address stands, or (false) would have to stand.
func search(b []api.Fame, a api.Address) (int, bool) {
	return sort.Find(len(b), func(i int) int { return compare(a, b[i].Addr) })
}

// raised is the book of a list in which one of an address's counts is greater by one.
func raised(l []api.Fame, a api.Address, count func(*api.Fame) *uint64) []api.Fame {
	b := book(l)
	i, is := search(b, a)
	if !is {
		b = slices.Insert(b, i, api.Fame{Addr: a})
	}
	if n := count(&b[i]); *n < math.MaxUint64 {
		*n++
	}
	return b
}

// compare tells the order of addresses.
func compare(a, b api.Address) int { return bytes.Compare(a[:], b[:]) }
