package foot_test

import (
	"slices"
	"testing"

	"quaestor/api"
	"quaestor/foot"
	"quaestor/sample"
)

// TestMeets: a place that both have, in which of their lists.
func TestMeets(t *testing.T) {
	for _, p := range []api.Place{{}, slot(0), slot(1), whole(at(7)), whole(api.Address{}), {Addr: api.Address{1}, Key: api.Word{0, 0, 0, 1}}} {
		one := list(p)
		for _, y := range []struct {
			name string
			a, b api.Foot
			want bool
		}{
			{"neither", api.Foot{}, api.Foot{}, false},
			{"one reads", reads(p), api.Foot{}, false},
			{"one writes", writes(p), api.Foot{}, false},
			{"one does both", both(one, one), api.Foot{}, false},
			{"both read", reads(p), reads(p), false},
			{"one writes, one reads", writes(p), reads(p), true},
			{"both write", writes(p), writes(p), true},
			{"one does both, one reads", both(one, one), reads(p), true},
			{"one does both, one writes", both(one, one), writes(p), true},
			{"both do both", both(one, one), both(one, one), true},
		} {
			if got := foot.Meets(y.a, y.b); got != y.want {
				t.Errorf("%v: %s: %v", p, y.name, got)
			}
			if got := foot.Meets(y.b, y.a); got != y.want {
				t.Errorf("%v: %s, the other way round: %v", p, y.name, got)
			}
		}
	}
}

// TestMeetsExample: the chapter's.
func TestMeetsExample(t *testing.T) {
	if !foot.Meets(writes(slot(1)), reads(slot(1))) || foot.Meets(reads(slot(1)), reads(slot(1))) {
		t.Error("one writes, and both read")
	}
}

// TestMeetsOther: other places do not matter: an account as a whole is none of its slots.
func TestMeetsOther(t *testing.T) {
	a := both(list(slot(1), slot(2)), list(slot(3), whole(at(7))))
	for _, p := range []api.Place{slot(0), slot(4), whole(at(8)), {Addr: at(8), Key: api.Word{1}}, {Addr: at(8), Key: api.Word{3}}, {}} {
		for _, b := range []api.Foot{reads(p), writes(p), both(list(p), list(p))} {
			if foot.Meets(a, b) || foot.Meets(b, a) {
				t.Errorf("%v meets %v", a, b)
			}
		}
	}
	if foot.Meets(writes(whole(at(7))), both(list(slot(0)), list(slot(1)))) || foot.Meets(both(list(slot(0)), list(slot(1))), writes(whole(at(7)))) {
		t.Error("an account meets its slots")
	}
}

// TestNear: all of a place counts.
func TestNear(t *testing.T) {
	for _, p := range []api.Place{{}, whole(at(7)), slot(5), {Addr: api.Address{0xff}, Key: api.Word{most, most, most, most}}} {
		for _, q := range near(p) {
			if foot.Meets(writes(p), reads(q)) || foot.Meets(reads(q), writes(p)) || foot.Meets(writes(p), writes(q)) {
				t.Errorf("%v meets %v", p, q)
			}
			if foot.Touches(reads(p), list(q)) || foot.Touches(writes(p), list(q)) {
				t.Errorf("%v touches %v", q, p)
			}
		}
	}
}

// TestMeetsWhere: the place that both have stands anywhere in lists without order, more than once or not.
func TestMeetsWhere(t *testing.T) {
	p := slot(5)
	for n := range 5 {
		for i := range n + 1 {
			with := list(slot(90), slot(80), slot(80), slot(70))[:n]
			with = append(append(append([]api.Place{}, with[:i]...), p), with[i:]...)
			for _, l := range [][]api.Place{list(p), list(p, p), list(slot(3), p, slot(2)), list(slot(2), slot(3), p), list(p, slot(1), slot(0))} {
				other := list(slot(60), slot(50), slot(60))
				if !foot.Meets(both(other, with), both(l, other[:1])) || !foot.Meets(both(l, other[:1]), both(other, with)) {
					t.Errorf("%v written, %v read", with, l)
				}
				if !foot.Meets(writes(with...), writes(l...)) || !foot.Meets(writes(l...), writes(with...)) {
					t.Errorf("%v and %v written", with, l)
				}
				if foot.Meets(reads(with...), reads(l...)) {
					t.Errorf("%v and %v read", with, l)
				}
				if !foot.Touches(both(with, other), l) || !foot.Touches(both(other, with), l) {
					t.Errorf("%v: %v does not touch", with, l)
				}
			}
		}
	}
}

func TestTouches(t *testing.T) {
	f := both(list(slot(2), slot(1), whole(at(8))), list(slot(3), slot(2), whole(at(7))))
	for _, p := range slices.Concat(f.Reads, f.Writes) {
		for _, l := range [][]api.Place{list(p), list(p, p), list(slot(9), p), list(p, slot(9)), list(slot(9), api.Place{}, p, slot(8))} {
			if !foot.Touches(f, l) {
				t.Errorf("%v does not touch", l)
			}
			if foot.Touches(api.Foot{}, l) {
				t.Errorf("%v touches nothing", l)
			}
		}
	}
	for _, l := range [][]api.Place{nil, {}, list(slot(0)), list(slot(4), slot(9), slot(4)), list(whole(at(9))), list(whole(api.Address{})), {{}}, list(api.Place{Addr: at(8), Key: api.Word{2}}, api.Place{Addr: at(8)})} {
		if foot.Touches(f, l) {
			t.Errorf("%v touches", l)
		}
		if foot.Touches(api.Foot{}, l) {
			t.Errorf("%v touches nothing", l)
		}
	}
	if !foot.Touches(reads(slot(1)), list(slot(1))) || !foot.Touches(writes(slot(1)), list(slot(1))) {
		t.Error("what was read, or written")
	}
}

// TestManyPlaces: lists as long as runs can make them are compared without delay.
func TestManyPlaces(t *testing.T) {
	const n = 100000
	var even, odd []api.Place
	for i := range uint64(n) {
		even, odd = append(even, slot(2*i)), append(odd, slot(2*i+1))
	}
	f, g := both(even, even), both(odd, odd)
	if foot.Meets(f, g) || foot.Touches(f, odd) {
		t.Error("even and odd ones")
	}
	g.Reads[n-1] = even[n-1]
	if !foot.Meets(f, g) || !foot.Meets(g, f) || !foot.Touches(f, odd) {
		t.Error("the last one")
	}
}

// contains, meets and touches are the chapter's words over lists.
func contains(l []api.Place, p api.Place) bool {
	for _, q := range l {
		if q.Addr == p.Addr && q.Whole == p.Whole && q.Key == p.Key {
			return true
		}
	}
	return false
}

func meets(a, b api.Foot) bool {
	is := false
	for _, p := range a.Writes {
		is = is || contains(b.Reads, p) || contains(b.Writes, p)
	}
	for _, p := range b.Writes {
		is = is || contains(a.Reads, p)
	}
	return is
}

func touches(f api.Foot, l []api.Place) bool {
	is := false
	for _, p := range l {
		is = is || contains(f.Reads, p) || contains(f.Writes, p)
	}
	return is
}

// TestDrawn holds feet against the chapter's words, and its properties: Meets is symmetric, and what meets neither of two feet does not meet their Union.
func TestDrawn(t *testing.T) {
	d := sample.Dice(3)
	few := list(slot(0), slot(1), slot(2), whole(at(7)), whole(at(8)), api.Place{Addr: at(8)}, api.Place{Addr: at(8), Key: api.Word{0, 1}}, api.Place{})
	var met, touched [2]int
	for range 5000 {
		n := 1 + d.Below(4)
		f, g, h := drawn(&d, n, few), drawn(&d, n, few), drawn(&d, n, few)
		want := meets(f, g)
		if foot.Meets(f, g) != want || foot.Meets(g, f) != want {
			t.Fatalf("%v, %v: meets is not %v", f, g, want)
		}
		if got := foot.Meets(f, foot.Union(g, h)); got != (want || meets(f, h)) {
			t.Fatalf("%v, and the union of %v and %v: %v", f, g, h, got)
		}
		l := h.Writes
		touch := touches(f, l)
		if foot.Touches(f, l) != touch || foot.Touches(foot.Union(f, g), l) != (touch || touches(g, l)) {
			t.Fatalf("%v, %v: %v touches is not %v", f, g, l, touch)
		}
		met[index(want)]++
		touched[index(touch)]++
	}
	if min(met[0], met[1], touched[0], touched[1]) < 500 {
		t.Errorf("%v, %v: too few of a kind", met, touched)
	}
}

func index(is bool) int {
	if is {
		return 1
	}
	return 0
}
