package repute_test

import (
	"slices"
	"testing"

	"quaestor/api"
	"quaestor/repute"
	"quaestor/sample"
)

// changes are the functions that tell a book.
func changes(a api.Address) map[string]func([]api.Fame) []api.Fame {
	return map[string]func([]api.Fame) []api.Fame{
		"See":     func(l []api.Fame) []api.Fame { return repute.See(l, a) },
		"Include": func(l []api.Fame) []api.Fame { return repute.Include(l, a) },
		"Hour":    repute.Hour,
	}
}

// TestArguments: lists are not changed, be they books already or not.
func TestArguments(t *testing.T) {
	d := sample.Dice(8)
	for range 300 {
		l := drawn(&d, 20)
		for _, l := range [][]api.Fame{l, inserted(l)} {
			kept := slices.Clone(l)
			repute.Find(l, at(1))
			for name, change := range changes(at(1)) {
				change(l)
				if !slices.Equal(l, kept) {
					t.Fatalf("%s changed %v to %v", name, kept, l)
				}
			}
		}
	}
}

// TestFresh: no answer shares memory with an argument or with another answer.
func TestFresh(t *testing.T) {
	d := sample.Dice(9)
	for range 300 {
		l := drawn(&d, 20)
		for _, l := range [][]api.Fame{l, inserted(l), make([]api.Fame, 0, 8)} {
			for name, change := range changes(at(1)) {
				given := slices.Clone(l)
				kept := slices.Clone(given)
				first, second := change(given), change(given)
				want := slices.Clone(second)
				if !slices.Equal(first, second) {
					t.Fatalf("%s: %v, and again %v", name, first, second)
				}
				clear(first[:cap(first)])
				if !slices.Equal(second, want) || !slices.Equal(given, kept) {
					t.Fatalf("%s of %v: the answer shares its memory", name, kept)
				}
				clear(given[:cap(given)])
				if !slices.Equal(second, want) {
					t.Fatalf("%s of %v: the argument was kept", name, kept)
				}
			}
		}
	}
}

// TestBehind: what stands behind a list's end is neither read, nor written, nor returned.
func TestBehind(t *testing.T) {
	all := list(fame(5, 1, 1), fame(3, 2, 2), fame(5, 3, 3), fame(4, 0, 0), fame(1, 4, 4), fame(3, 0, 0), fame(5, 5, 5), fame(2, 6, 6))
	kept := slices.Clone(all)
	for n := range len(all) + 1 {
		cut, clipped := all[:n], slices.Clip(slices.Clone(all[:n]))
		for k := range byte(7) {
			if got, want := repute.Find(cut, at(k)), repute.Find(clipped, at(k)); got != want {
				t.Errorf("%d entries: %v, want %v", n, got, want)
			}
			for name, change := range changes(at(k)) {
				got, want := change(cut), change(clipped)
				if !slices.Equal(got, want) || !slices.Equal(all, kept) {
					t.Errorf("%d entries: %s: %v, want %v; of %v", n, name, got, want, all)
				}
				clear(got[:cap(got)])
				if !slices.Equal(all, kept) {
					t.Errorf("%d entries: %s: the answer has what stands behind", n, name)
				}
			}
		}
	}
}
