// Package places has sets of places and their order. Several layers tell places, each of them rising, and not all of these layers may import one another.
package places

import (
	"bytes"
	"cmp"
	"maps"
	"slices"

	"quaestor/api"
	"quaestor/word"
)

// Set is places, each of them once.
type Set map[api.Place]struct{}

// Add puts places into a set.
func (s Set) Add(l ...api.Place) {
	for _, p := range l {
		s[p] = struct{}{}
	}
}

// Has says whether a place is one of a set.
func (s Set) Has(p api.Place) bool {
	_, is := s[p]
	return is
}

// Sorted are the places of a set, rising.
func (s Set) Sorted() []api.Place { return slices.SortedFunc(maps.Keys(s), compare) }

// Whole is an account as a place.
func Whole(a api.Address) api.Place { return api.Place{Addr: a, Whole: true} }

// compare tells the order of places: by address, an account as a whole ahead of its slots, and these by key.
func compare(p, q api.Place) int {
	return cmp.Or(bytes.Compare(p.Addr[:], q.Addr[:]), cmp.Compare(rank(p), rank(q)), word.Cmp(p.Key, q.Key))
}

// rank is 0 for an account as a whole, and 1 for a slot.
func rank(p api.Place) int {
	if p.Whole {
		return 0
	}
	return 1
}
