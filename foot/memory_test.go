package foot_test

import (
	"slices"
	"testing"

	"quaestor/api"
	"quaestor/foot"
	"quaestor/sample"
)

// spoil overwrites all that a foot has, up to the capacity of its lists.
func spoil(f api.Foot) {
	clear(f.Reads[:cap(f.Reads)])
	clear(f.Writes[:cap(f.Writes)])
}

// TestArguments: feet are not changed.
func TestArguments(t *testing.T) {
	d := sample.Dice(4)
	for range 300 {
		l := []api.Foot{drawn(&d, 20, rising()), drawn(&d, 20, rising())}
		kept := []api.Foot{clone(l[0]), clone(l[1])}
		foot.Union(l...)
		foot.Meets(l[0], l[1])
		foot.Touches(l[0], l[1].Writes)
		if !slices.EqualFunc(l, kept, equal) {
			t.Fatalf("%v was changed", kept)
		}
	}
}

// TestUnionFresh: no answer shares memory with an argument or with another answer, nor its lists with one another.
func TestUnionFresh(t *testing.T) {
	d := sample.Dice(5)
	for range 300 {
		l := []api.Foot{drawn(&d, 20, rising()), drawn(&d, 20, rising())}[:1+d.Below(2)]
		kept := []api.Foot{clone(l[0]), clone(l[len(l)-1])}[:len(l)]
		first, second := foot.Union(l...), foot.Union(l...)
		if !equal(first, second) {
			t.Fatalf("%v, and again %v", first, second)
		}
		want := clone(second)
		spoil(first)
		if !equal(second, want) || !slices.EqualFunc(l, kept, equal) {
			t.Fatalf("%v: the answer shares its memory", kept)
		}
		for _, f := range l {
			spoil(f)
		}
		clear(l)
		if !equal(second, want) {
			t.Fatalf("%v: the arguments were kept", kept)
		}
		clear(second.Reads[:cap(second.Reads)])
		if !slices.Equal(second.Writes, want.Writes) {
			t.Fatalf("%v: the lists share memory", kept)
		}
	}
}

// TestBehind: what stands behind a list's end is neither read, nor written, nor returned.
func TestBehind(t *testing.T) {
	all := list(slot(9), slot(5), whole(at(7)), slot(7), slot(1))
	kept := slices.Clone(all)
	for n := range len(all) + 1 {
		cut, clipped := all[:n], slices.Clip(slices.Clone(all[:n]))
		got, want := foot.Union(both(cut, cut), both(cut, nil)), foot.Union(both(clipped, clipped))
		if !equal(got, want) {
			t.Errorf("%d places: %v, want %v", n, got, want)
		}
		feet := []api.Foot{reads(cut...), writes(slot(3)), reads(slot(4))}
		if got := foot.Union(feet[:1]...); !equal(got, foot.Union(reads(clipped...))) {
			t.Errorf("%d places, and feet behind: %v", n, got)
		}
		for i, p := range all {
			is := i < n
			if foot.Meets(writes(cut...), reads(p)) != is || foot.Meets(reads(p), writes(cut...)) != is || foot.Meets(reads(cut...), writes(p)) != is || foot.Touches(reads(p), cut) != is || foot.Touches(writes(cut...), list(p)) != is {
				t.Errorf("%d places: not %v for %v", n, is, p)
			}
		}
	}
	if !slices.Equal(all, kept) {
		t.Errorf("%v became %v", kept, all)
	}
}

// TestAlike: a list that is passed twice, and parts of one, are lists like others.
func TestAlike(t *testing.T) {
	l := list(slot(2), slot(1), whole(at(7)))
	f := both(l, l)
	if got, want := foot.Union(f, f), list(whole(at(7)), slot(1), slot(2)); !equal(got, both(want, want)) {
		t.Errorf("%v", got)
	}
	if !foot.Meets(f, f) || foot.Meets(reads(l...), reads(l...)) || !foot.Touches(f, l) || foot.Meets(both(l[:1], l[1:2]), both(l[:1], l[2:])) {
		t.Error("one list for several")
	}
}
