package places_test

import (
	"bytes"
	"slices"
	"testing"

	"quaestor/api"
	"quaestor/places"
	"quaestor/sample"
	"quaestor/word"
)

// rising are places in their order, at the edges of addresses and keys.
func rising() []api.Place {
	var l []api.Place
	for _, a := range []api.Address{{}, {19: 1}, {19: 0xff}, {18: 1}, {1}, {1, 19: 1}, {0x7f}, {0x80}, {0xff, 19: 0xfe}} {
		l = append(l, api.Place{Addr: a, Whole: true})
		for _, key := range []api.Word{{}, {1}, {1 << 63}, {0, 1}, {5, 1}, {0, 0, 1}, {0, 0, 0, 1}, {9, 0, 0, 1}, {0, 0, 0, 1 << 63}} {
			l = append(l, api.Place{Addr: a, Key: key})
		}
	}
	return l
}

func TestWhole(t *testing.T) {
	for _, a := range []api.Address{{}, {1}, {19: 0xff}} {
		if p := places.Whole(a); p != (api.Place{Addr: a, Whole: true}) {
			t.Errorf("%x: %v", a, p)
		}
	}
}

// TestSorted adds places one by one or at once, in many turns, and some of them again.
func TestSorted(t *testing.T) {
	want := rising()
	d := sample.Dice(1)
	for range 300 {
		mixed := slices.Clone(want)
		for i := range mixed {
			j := i + d.Below(len(mixed)-i)
			mixed[i], mixed[j] = mixed[j], mixed[i]
		}
		n := d.Below(len(mixed) + 1)
		s := places.Set{}
		s.Add(mixed[:n]...)
		for _, p := range mixed[n:] {
			s.Add(p)
		}
		s.Add(mixed[:d.Below(len(mixed))]...)
		if got := s.Sorted(); !slices.Equal(got, want) {
			t.Fatalf("%v, want %v", got, want)
		}
	}
}

// TestSortedDrawn holds the order against that of the bytes that places have: the address, whether it is a slot, the key.
func TestSortedDrawn(t *testing.T) {
	d := sample.Dice(2)
	text := func(p api.Place) []byte {
		b := append(p.Addr[:], 1)
		if p.Whole {
			b[20] = 0
		}
		return append(b, word.Bytes(p.Key)...)
	}
	for range 300 {
		s := places.Set{}
		var want []api.Place
		for range d.Below(40) {
			p := api.Place{Addr: word.Addr(d.Word()), Whole: d.Below(2) == 0}
			if !p.Whole {
				p.Key = d.Word()
			}
			s.Add(p, p)
			want = append(want, p)
		}
		slices.SortFunc(want, func(p, q api.Place) int { return bytes.Compare(text(p), text(q)) })
		want = slices.Compact(want)
		if got := s.Sorted(); !slices.Equal(got, want) {
			t.Fatalf("%v, want %v", got, want)
		}
	}
}

func TestNone(t *testing.T) {
	s := places.Set{}
	if len(s.Sorted()) != 0 {
		t.Error("an empty set has places")
	}
	s.Add()
	if len(s.Sorted()) != 0 {
		t.Error("no places are some")
	}
}

// TestHas asks for each of many places, of which every other one was added.
func TestHas(t *testing.T) {
	s := places.Set{}
	for i, p := range rising() {
		if s.Has(p) {
			t.Errorf("%v is there already", p)
		}
		if i%2 == 0 {
			s.Add(p)
		}
	}
	for i, p := range rising() {
		if s.Has(p) != (i%2 == 0) {
			t.Errorf("%v: %v", p, s.Has(p))
		}
	}
	if n := len(s.Sorted()); n != (len(rising())+1)/2 {
		t.Errorf("%d places after asking", n)
	}
}

// TestSortedFresh: what is answered shares nothing with the set or another answer, and what was given is not changed.
func TestSortedFresh(t *testing.T) {
	given := rising()
	slices.Reverse(given)
	kept := slices.Clone(given)
	s := places.Set{}
	s.Add(given[:50]...)
	if !slices.Equal(given, kept) {
		t.Error("the argument was changed")
	}
	clear(given)
	first, second := s.Sorted(), s.Sorted()
	if len(first) != 50 {
		t.Errorf("%d places, not 50", len(first))
	}
	clear(first[:cap(first)])
	slices.Reverse(kept[:50])
	if !slices.Equal(second, kept[:50]) || !slices.Equal(s.Sorted(), kept[:50]) {
		t.Error("the answers share memory")
	}
}
