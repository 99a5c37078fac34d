package foot_test

import (
	"slices"
	"testing"

	"quaestor/api"
	"quaestor/foot"
	"quaestor/sample"
)

func TestUnion(t *testing.T) {
	a, b := whole(at(7)), whole(at(8))
	for _, y := range []struct {
		name string
		l    []api.Foot
		want api.Foot
	}{
		{"none", nil, api.Foot{}},
		{"no feet", []api.Foot{}, api.Foot{}},
		{"empty feet", []api.Foot{{}, {}}, api.Foot{}},
		{"empty lists", []api.Foot{both(list(), list())}, api.Foot{}},
		{"one", []api.Foot{both(list(slot(1)), list(slot(2)))}, both(list(slot(1)), list(slot(2)))},
		{"one that falls", []api.Foot{both(list(b, slot(2), slot(1), a), list(slot(9), slot(8)))}, both(list(a, slot(1), slot(2), b), list(slot(8), slot(9)))},
		{"one twice", []api.Foot{both(list(a), list(b)), both(list(a), list(b))}, both(list(a), list(b))},
		{"the same place in one list", []api.Foot{reads(slot(3), a, slot(3), slot(3))}, reads(a, slot(3))},
		{"the same place written again", []api.Foot{writes(slot(3), slot(3)), writes(slot(3))}, writes(slot(3))},
		{"a place that is read and written", []api.Foot{reads(slot(3)), writes(slot(3))}, both(list(slot(3)), list(slot(3)))},
		{"an empty one among others", []api.Foot{{}, reads(slot(2)), {}, reads(slot(1)), {}}, reads(slot(1), slot(2))},
		{"three", []api.Foot{both(list(slot(5)), list(b)), both(list(slot(1)), nil), both(list(slot(3), slot(5)), list(a))}, both(list(slot(1), slot(3), slot(5)), list(a, b))},
		{"a slot 0, and the account", []api.Foot{reads(slot(0)), reads(a)}, reads(a, slot(0))},
	} {
		if got := foot.Union(y.l...); !equal(got, y.want) {
			t.Errorf("%s: %v, want %v", y.name, got, y.want)
		}
		slices.Reverse(y.l)
		if got := foot.Union(y.l...); !equal(got, y.want) {
			t.Errorf("%s, from behind: %v, want %v", y.name, got, y.want)
		}
	}
}

// TestUnionNumber: feet of all numbers, each with a place of its own.
func TestUnionNumber(t *testing.T) {
	var l []api.Foot
	var r, w []api.Place
	for n := range uint64(70) {
		if got := foot.Union(l...); !equal(got, both(r, w)) {
			t.Errorf("%d feet: %v, want %v, %v", n, got, r, w)
		}
		l = append(l, both(list(slot(2*n)), list(slot(2*n+1))))
		r, w = append(r, slot(2*n)), append(w, slot(2*n+1))
	}
}

// TestUnionOrder deals places to several feet, in many turns, some of them to more than one foot.
func TestUnionOrder(t *testing.T) {
	d := sample.Dice(1)
	want := rising()
	for range 300 {
		l := make([]api.Foot, 1+d.Below(5))
		for _, p := range slices.Concat(mix(&d, want), mix(&d, want)[:d.Below(len(want))]) {
			f := &l[d.Below(len(l))]
			f.Reads = append(f.Reads, p)
		}
		if got := foot.Union(l...); !equal(got, reads(want...)) {
			t.Fatalf("%v: %v", l, got)
		}
		for i := range l {
			l[i] = writes(l[i].Reads...)
		}
		if got := foot.Union(l...); !equal(got, writes(want...)) {
			t.Fatalf("%v: %v", l, got)
		}
	}
}

// TestUnionNear: places that differ in a bit are two.
func TestUnionNear(t *testing.T) {
	for _, p := range []api.Place{{}, whole(at(7)), slot(5), {Addr: api.Address{0xff}, Key: api.Word{most, most, most, most}}} {
		for _, q := range near(p) {
			if got := foot.Union(reads(p), reads(q)); len(got.Reads) != 2 || len(got.Writes) != 0 || !slices.Contains(got.Reads, p) || !slices.Contains(got.Reads, q) {
				t.Errorf("reads %v and %v: %v", p, q, got)
			}
			if got := foot.Union(writes(p, q)); len(got.Writes) != 2 || len(got.Reads) != 0 || !slices.Contains(got.Writes, p) || !slices.Contains(got.Writes, q) {
				t.Errorf("writes %v and %v: %v", p, q, got)
			}
		}
	}
}

// TestUnionKeys: accounts as a whole that have keys, which nothing makes, are places of their own with an order, too.
func TestUnionKeys(t *testing.T) {
	var want []api.Place
	for n := range uint64(20) {
		want = append(want, api.Place{Addr: at(7), Whole: true, Key: api.Word{n}})
	}
	want = append(want, slot(0), slot(1))
	d := sample.Dice(6)
	for range 100 {
		l := mix(&d, want)
		if got := foot.Union(reads(l...), reads(l[3:]...)); !equal(got, reads(want...)) {
			t.Fatalf("%v: %v", l, got)
		}
	}
}

// TestUnionAgain: the union of unions is that of all, and its own.
func TestUnionAgain(t *testing.T) {
	d := sample.Dice(2)
	for range 500 {
		f, g, h := drawn(&d, 12, rising()), drawn(&d, 12, rising()), drawn(&d, 12, rising())
		want := foot.Union(f, g, h)
		for _, got := range []api.Foot{foot.Union(foot.Union(f, g), h), foot.Union(f, foot.Union(h, g)), foot.Union(want), foot.Union(want, g), foot.Union(h, f, g, f)} {
			if !equal(got, want) {
				t.Fatalf("%v, %v, %v: %v, want %v", f, g, h, got, want)
			}
		}
	}
}

// TestUnionMany: as many places as runs can have are told without delay.
func TestUnionMany(t *testing.T) {
	const n = 100000
	var l []api.Foot
	var want []api.Place
	for i := range uint64(n) {
		l = append(l, both(list(slot(n-1-i)), list(slot(n-1-i), slot(0))))
		want = append(want, slot(i))
	}
	if f := foot.Union(l...); !equal(f, both(want, want)) {
		t.Errorf("%d reads, %d writes", len(f.Reads), len(f.Writes))
	}
}
