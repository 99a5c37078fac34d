package fees_test

import (
	"testing"

	"quaestor/api"
	"quaestor/fees"
)

const top = 1 << 63

// values are words that part only in one place, so that no part of a word can be left out of a comparison.
func values() []api.Word {
	return []api.Word{
		{}, {1}, {2}, {most}, {0, 1}, {0, 2}, {0, 0, 1}, {0, 0, 2}, {0, 0, 0, 1}, {0, 0, 0, 2}, {top}, {0, top}, {0, 0, top}, {0, 0, 0, top},
		{1, 1}, {1, 0, 1}, {1, 0, 0, 1}, {5, 6, 7, 8}, {5, 6, 7, 9}, {4, 6, 7, 8}, {5, 0, 7, 8}, {5, 6, 0, 8}, {most, most, most, most},
	}
}

// costTold is the cost in the chapter's words.
func costTold(original, current, next api.Word, cold bool) uint64 {
	var cost uint64
	switch {
	case next == current || current != original:
		cost = 100
	case original == api.Word{}:
		cost = 20000
	default:
		cost = 2900
	}
	if cold {
		cost += 2100
	}
	return cost
}

// backTold is the refund in the chapter's words.
func backTold(original, current, next api.Word) int64 {
	none := api.Word{}
	if next == current {
		return 0
	}
	if current == original {
		if original != none && next == none {
			return 4800
		}
		return 0
	}
	var first, second int64
	if original != none {
		if current == none {
			first = -4800
		} else if next == none {
			first = 4800
		}
	}
	if next == original {
		second = 2800
		if original == none {
			second = 19900
		}
	}
	return first + second
}

func TestStore(t *testing.T) {
	for _, x := range []struct {
		original, current, next uint64
		cost                    uint64
		back                    int64
	}{
		{0, 0, 0, 100, 0}, {0, 0, 1, 20000, 0}, {0, 1, 0, 100, 19900}, {0, 1, 1, 100, 0}, {0, 1, 2, 100, 0},
		{5, 5, 5, 100, 0}, {5, 5, 0, 2900, 4800}, {5, 5, 6, 2900, 0}, {5, 0, 0, 100, 0}, {5, 0, 5, 100, -2000}, {5, 0, 6, 100, -4800},
		{5, 6, 6, 100, 0}, {5, 6, 5, 100, 2800}, {5, 6, 0, 100, 4800}, {5, 6, 7, 100, 0},
	} {
		original, current, next := api.Word{x.original}, api.Word{x.current}, api.Word{x.next}
		if cost, back := fees.Store(original, current, next, false); cost != x.cost || back != x.back {
			t.Errorf("%v: %d, %d", x, cost, back)
		}
		if cost, back := fees.Store(original, current, next, true); cost != x.cost+2100 || back != x.back {
			t.Errorf("%v, cold: %d, %d", x, cost, back)
		}
	}
}

func TestStoreAll(t *testing.T) {
	l := values()
	for _, original := range l {
		for _, current := range l {
			for _, next := range l {
				for _, cold := range []bool{false, true} {
					cost, back := fees.Store(original, current, next, cold)
					if cost != costTold(original, current, next, cold) || back != backTold(original, current, next) {
						t.Errorf("%x, %x, %x, %v: %d, %d", original, current, next, cold, cost, back)
					}
				}
			}
		}
	}
}

// TestStoreInTurn shows that what a transaction gives back of a slot is never below 0 in all, however often the slot changes.
func TestStoreInTurn(t *testing.T) {
	l := []api.Word{{}, {5}, {6}, {0, 0, 0, 5}}
	var walk func(original, current api.Word, sum int64, left int)
	walk = func(original, current api.Word, sum int64, left int) {
		if sum < 0 {
			t.Errorf("%x to %x: %d in all", original, current, sum)
		}
		if left == 0 {
			return
		}
		for _, next := range l {
			_, back := fees.Store(original, current, next, false)
			walk(original, next, sum+back, left-1)
		}
	}
	for _, original := range l {
		walk(original, original, 0, 6)
	}
}
