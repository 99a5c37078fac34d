package repute_test

import (
	"slices"
	"testing"

	"quaestor/api"
	"quaestor/repute"
	"quaestor/sample"
)

// books are ways to have a list's book told: by See and Include of an address that no list here has, whose entry is taken out again, and by Hour, which leaves counts below 24 as they are.
func books() map[string]func([]api.Fame) []api.Fame {
	other := api.Address{5: 0x77}
	without := func(l []api.Fame) []api.Fame {
		return slices.DeleteFunc(l, func(f api.Fame) bool { return f.Addr == other })
	}
	return map[string]func([]api.Fame) []api.Fame{
		"See":     func(l []api.Fame) []api.Fame { return without(repute.See(l, other)) },
		"Include": func(l []api.Fame) []api.Fame { return without(repute.Include(l, other)) },
		"Hour":    repute.Hour,
	}
}

// TestBook: which book a list represents; counts are so small that an hour does not change them.
func TestBook(t *testing.T) {
	for _, y := range []struct {
		name    string
		l, want []api.Fame
	}{
		{"none", nil, nil},
		{"empty", list(), nil},
		{"one", list(fame(5, 1, 2)), list(fame(5, 1, 2))},
		{"one that was seen", list(fame(5, 1, 0)), list(fame(5, 1, 0))},
		{"one that was included", list(fame(5, 0, 1)), list(fame(5, 0, 1))},
		{"one that counts nothing", list(fame(5, 0, 0)), nil},
		{"the address 0", list(fame(0, 1, 2)), list(fame(0, 1, 2))},
		{"a zero value", list(api.Fame{}), nil},
		{"two that fall", list(fame(6, 3, 4), fame(5, 1, 2)), list(fame(5, 1, 2), fame(6, 3, 4))},
		{"one again", list(fame(5, 1, 2), fame(5, 3, 4)), list(fame(5, 3, 4))},
		{"one again with less", list(fame(5, 3, 4), fame(5, 1, 0)), list(fame(5, 1, 0))},
		{"one again, the same", list(fame(5, 3, 4), fame(5, 3, 4)), list(fame(5, 3, 4))},
		{"one three times, others between", list(fame(5, 1, 1), fame(7, 2, 2), fame(5, 3, 3), fame(4, 4, 4), fame(5, 5, 5)), list(fame(4, 4, 4), fame(5, 5, 5), fame(7, 2, 2))},
		{"one that counts nothing any more", list(fame(5, 1, 2), fame(5, 0, 0)), nil},
		{"one that counts nothing any more, others between", list(fame(5, 1, 2), fame(6, 7, 7), fame(5, 0, 0), fame(4, 8, 8)), list(fame(4, 8, 8), fame(6, 7, 7))},
		{"one that counts nothing, and then something", list(fame(5, 0, 0), fame(5, 1, 2)), list(fame(5, 1, 2))},
		{"one that counts, nothing, and again", list(fame(5, 1, 2), fame(5, 0, 0), fame(5, 2, 3)), list(fame(5, 2, 3))},
		{"nothing among others", list(fame(4, 1, 1), fame(5, 0, 0), fame(6, 1, 1)), list(fame(4, 1, 1), fame(6, 1, 1))},
		{"nothing of many", list(fame(4, 0, 0), fame(5, 0, 0), fame(4, 0, 0)), nil},
	} {
		for name, book := range books() {
			if got := book(y.l); !slices.Equal(got, y.want) {
				t.Errorf("%s, by %s: %v, want %v", y.name, name, got, y.want)
			}
		}
	}
}

// TestBookOrder: addresses stand in the order of their bytes, in whatever order they come.
func TestBookOrder(t *testing.T) {
	d := sample.Dice(1)
	var want []api.Fame
	for i, a := range rising() {
		want = append(want, api.Fame{Addr: a, Seen: uint64(i + 1), Included: uint64(20 - i)})
	}
	for range 300 {
		l := mix(&d, want)
		for name, book := range books() {
			if got := book(l); !slices.Equal(got, want) {
				t.Fatalf("%v, by %s: %v", l, name, got)
			}
		}
	}
}

// TestBookNear: addresses that differ in a bit are two.
func TestBookNear(t *testing.T) {
	a := api.Address{1, 10: 0x80, 19: 5}
	for i, other := range near(a) {
		l := list(api.Fame{Addr: a, Seen: 1}, api.Fame{Addr: other, Seen: 2})
		for name, book := range books() {
			got := book(l)
			if len(got) != 2 || !slices.Contains(got, l[0]) || !slices.Contains(got, l[1]) {
				t.Errorf("bit %d, by %s: %v", i, name, got)
			}
		}
	}
}

// TestBookAgain: a book represents itself, and one that was told is one.
func TestBookAgain(t *testing.T) {
	d := sample.Dice(2)
	for range 1000 {
		l := drawn(&d, 30)
		b := inserted(l)
		for name, book := range books() {
			if first, second := book(l), book(b); !slices.Equal(first, second) {
				t.Fatalf("%v, by %s: %v, but that of its book is %v", l, name, first, second)
			}
		}
		for _, got := range [][]api.Fame{repute.See(l, at(1)), repute.Include(l, at(1)), repute.Hour(l)} {
			if !slices.Equal(got, inserted(got)) {
				t.Fatalf("%v: %v is no book", l, got)
			}
		}
	}
}

// TestMany: long lists are taken without delay, in whatever order they come.
func TestMany(t *testing.T) {
	const n = 300000
	rise := make([]api.Fame, n)
	for i := range rise {
		rise[i] = api.Fame{Addr: api.Address{0: byte(i >> 16), 9: byte(i >> 8), 19: byte(i)}, Seen: 1}
	}
	fall := slices.Clone(rise)
	slices.Reverse(fall)
	d := sample.Dice(3)
	same := make([]api.Fame, n)
	for i := range same {
		same[i] = fame(1, uint64(i), 1)
	}
	for _, l := range [][]api.Fame{rise, fall, mix(&d, rise)} {
		b := repute.Hour(l)
		if !slices.Equal(b, rise) {
			t.Error("not in order")
		}
		b = repute.See(l, rise[n/2].Addr)
		if len(b) != n || b[n/2].Seen != 2 || b[n/2-1] != rise[n/2-1] || repute.Find(b, rise[n/2].Addr) != b[n/2] {
			t.Error("the one in the middle")
		}
	}
	if b := repute.Include(same, at(1)); !slices.Equal(b, list(fame(1, n-1, 2))) {
		t.Errorf("%d entries", len(b))
	}
}
