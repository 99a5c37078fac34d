package repute_test

import (
	"slices"
	"testing"

	"quaestor/api"
	"quaestor/repute"
	"quaestor/sample"
)

func TestFind(t *testing.T) {
	for _, y := range []struct {
		name string
		l    []api.Fame
		want api.Fame
	}{
		{"none", nil, fame(5, 0, 0)},
		{"empty", list(), fame(5, 0, 0)},
		{"alone", list(fame(5, 1, 2)), fame(5, 1, 2)},
		{"others", list(fame(4, 1, 2), fame(6, 3, 4)), fame(5, 0, 0)},
		{"first", list(fame(5, 1, 2), fame(6, 3, 4), fame(7, 3, 4)), fame(5, 1, 2)},
		{"last", list(fame(3, 3, 4), fame(4, 3, 4), fame(5, 1, 2)), fame(5, 1, 2)},
		{"between", list(fame(4, 3, 4), fame(5, 1, 2), fame(6, 3, 4)), fame(5, 1, 2)},
		{"falling", list(fame(6, 3, 4), fame(5, 1, 2), fame(4, 3, 4)), fame(5, 1, 2)},
		{"seen alone", list(fame(5, 1, 0)), fame(5, 1, 0)},
		{"included alone", list(fame(5, 0, 1)), fame(5, 0, 1)},
		{"greatest", list(fame(5, most, most)), fame(5, most, most)},
		{"twice", list(fame(5, 9, 9), fame(5, 1, 2)), fame(5, 1, 2)},
		{"twice, others between", list(fame(5, 9, 9), fame(4, 3, 3), fame(6, 3, 3), fame(5, 1, 2), fame(4, 3, 3)), fame(5, 1, 2)},
		{"counts nothing", list(fame(5, 0, 0)), fame(5, 0, 0)},
		{"counts nothing any more", list(fame(5, 1, 2), fame(5, 0, 0)), fame(5, 0, 0)},
		{"counts again", list(fame(5, 0, 0), fame(5, 1, 2)), fame(5, 1, 2)},
	} {
		if got := repute.Find(y.l, at(5)); got != y.want {
			t.Errorf("%s: %v, want %v", y.name, got, y.want)
		}
	}
}

// TestFindAll looks for addresses at all edges in lists that have every other one of them.
func TestFindAll(t *testing.T) {
	d := sample.Dice(4)
	for first := range 2 {
		var l []api.Fame
		for i, a := range rising() {
			if i%2 == first {
				l = append(l, api.Fame{Addr: a, Seen: uint64(i + 1), Included: 7})
			}
		}
		l = mix(&d, l)
		for i, a := range rising() {
			want := api.Fame{Addr: a}
			if i%2 == first {
				want.Seen, want.Included = uint64(i+1), 7
			}
			if got := repute.Find(l, a); got != want {
				t.Errorf("%v, %x: %v", l, a, got)
			}
			for _, other := range near(a) {
				if got := repute.Find(list(api.Fame{Addr: a, Seen: 1}), other); got != (api.Fame{Addr: other}) {
					t.Errorf("%x alone, %x: %v", a, other, got)
				}
			}
		}
	}
}

// TestRaise: See and Include count on one by one, for an address at each place of a book, or at none.
func TestRaise(t *testing.T) {
	others := list(fame(2, 3, 4), fame(4, 5, 6), fame(6, 7, 8))
	for n := byte(1); n < 8; n++ {
		for _, have := range []api.Fame{fame(n, 0, 0), fame(n, 1, 0), fame(n, 0, 1), fame(n, 9, 99), fame(n, 1<<32-1, 1<<32-1), fame(n, most-1, most-1), fame(n, most, most), fame(n, most, 3), fame(n, 3, most)} {
			seen, included := have, have
			if have.Seen != most {
				seen.Seen++
			}
			if have.Included != most {
				included.Included++
			}
			l := slices.Concat(others, list(have))
			if got, want := repute.See(l, at(n)), inserted(slices.Concat(l, list(seen))); !slices.Equal(got, want) {
				t.Errorf("%v: seen: %v, want %v", l, got, want)
			}
			if got, want := repute.Include(l, at(n)), inserted(slices.Concat(l, list(included))); !slices.Equal(got, want) {
				t.Errorf("%v: included: %v, want %v", l, got, want)
			}
		}
	}
}

// TestRaiseAmong: the entry that is counted on is the book's, not one that another one replaces.
func TestRaiseAmong(t *testing.T) {
	for _, y := range []struct {
		name           string
		l              []api.Fame
		seen, included []api.Fame
	}{
		{"none", nil, list(fame(5, 1, 0)), list(fame(5, 0, 1))},
		{"empty", list(), list(fame(5, 1, 0)), list(fame(5, 0, 1))},
		{"it counts nothing", list(fame(5, 0, 0)), list(fame(5, 1, 0)), list(fame(5, 0, 1))},
		{"it counts nothing any more", list(fame(5, 8, 8), fame(5, 0, 0)), list(fame(5, 1, 0)), list(fame(5, 0, 1))},
		{"twice", list(fame(5, 8, 8), fame(5, 2, 3)), list(fame(5, 3, 3)), list(fame(5, 2, 4))},
		{"twice, falling", list(fame(6, 1, 1), fame(5, 8, 8), fame(4, 1, 1), fame(5, 2, 3)), list(fame(4, 1, 1), fame(5, 3, 3), fame(6, 1, 1)), list(fame(4, 1, 1), fame(5, 2, 4), fame(6, 1, 1))},
		{"others that count nothing", list(fame(6, 0, 0), fame(4, 0, 0)), list(fame(5, 1, 0)), list(fame(5, 0, 1))},
		{"ahead of all", list(fame(7, 1, 1), fame(6, 1, 1)), list(fame(5, 1, 0), fame(6, 1, 1), fame(7, 1, 1)), list(fame(5, 0, 1), fame(6, 1, 1), fame(7, 1, 1))},
		{"behind all", list(fame(4, 1, 1), fame(3, 1, 1)), list(fame(3, 1, 1), fame(4, 1, 1), fame(5, 1, 0)), list(fame(3, 1, 1), fame(4, 1, 1), fame(5, 0, 1))},
	} {
		if got := repute.See(y.l, at(5)); !slices.Equal(got, y.seen) {
			t.Errorf("%s: seen: %v, want %v", y.name, got, y.seen)
		}
		if got := repute.Include(y.l, at(5)); !slices.Equal(got, y.included) {
			t.Errorf("%s: included: %v, want %v", y.name, got, y.included)
		}
	}
}

// TestHour: what is left of counts an hour later.
func TestHour(t *testing.T) {
	for _, y := range []struct{ n, want uint64 }{
		{1, 1}, {2, 2}, {22, 22}, {23, 23}, {24, 23}, {25, 24}, {46, 45}, {47, 46}, {48, 46}, {49, 47}, {71, 69}, {72, 69}, {240, 230}, {1000, 959},
		{1 << 32, 4116010326}, {1 << 63, 8839064868652493483}, {most - 1, 17678129737304986964}, {most, 17678129737304986965}, // 23 times 768614336404564650, and 14 or 15
	} {
		for _, x := range []struct{ f, want api.Fame }{
			{fame(5, y.n, 0), fame(5, y.want, 0)},
			{fame(5, 0, y.n), fame(5, 0, y.want)},
			{fame(5, y.n, 49), fame(5, y.want, 47)},
			{fame(5, 49, y.n), fame(5, 47, y.want)},
			{fame(5, y.n, y.n), fame(5, y.want, y.want)},
		} {
			if got := repute.Hour(list(x.f)); !slices.Equal(got, list(x.want)) {
				t.Errorf("%v: %v, want %v", x.f, got, x.want)
			}
		}
	}
	l := list(fame(9, 48, 24), fame(5, 1, 1), fame(7, 100, 0), fame(5, 240, 23))
	if got, want := repute.Hour(l), list(fame(5, 230, 23), fame(7, 96, 0), fame(9, 46, 23)); !slices.Equal(got, want) {
		t.Errorf("%v, want %v", got, want)
	}
}

// TestHours: counts fade for as long as they make a day, and are never lost.
func TestHours(t *testing.T) {
	l := list(fame(1, 1, 0), fame(2, most, 1<<32), fame(3, 0, 24), fame(4, 1000, 999))
	for range 2000 {
		l = repute.Hour(l)
	}
	if want := list(fame(1, 1, 0), fame(2, 23, 23), fame(3, 0, 23), fame(4, 23, 23)); !slices.Equal(l, want) {
		t.Errorf("%v, want %v", l, want)
	}
}

// TestExamples: the chapter's.
func TestExamples(t *testing.T) {
	if repute.Standing(fame(5, 110, 0)) != api.StandThrottled || repute.Standing(fame(5, 510, 0)) != api.StandBanned || repute.Standing(fame(5, 109, 0)) != api.StandOK {
		t.Error("standings")
	}
	if repute.Quota(fame(5, 0, 0)) != 10 || repute.Quota(fame(5, 10, 5)) != 20 {
		t.Error("quotas")
	}
	if got := repute.Hour(list(fame(5, 49, 0))); !slices.Equal(got, list(fame(5, 47, 0))) {
		t.Errorf("an hour: %v", got)
	}
}

// TestDrawn holds what is told of lists against the chapter's words.
func TestDrawn(t *testing.T) {
	d := sample.Dice(5)
	for range 5000 {
		l := drawn(&d, 1+d.Below(40))
		b := inserted(l)
		a := rising()[d.Below(len(rising()))]
		have := api.Fame{Addr: a}
		for _, f := range b {
			if f.Addr == a {
				have = f
			}
		}
		if got := repute.Find(l, a); got != have {
			t.Fatalf("%v, %x: %v, want %v", l, a, got, have)
		}
		seen, included := have, have
		seen.Seen += min(1, most-have.Seen)
		included.Included += min(1, most-have.Included)
		if got, want := repute.See(l, a), inserted(append(slices.Clone(b), seen)); !slices.Equal(got, want) {
			t.Fatalf("%v, %x: seen: %v, want %v", l, a, got, want)
		}
		if got, want := repute.Include(l, a), inserted(append(slices.Clone(b), included)); !slices.Equal(got, want) {
			t.Fatalf("%v, %x: included: %v, want %v", l, a, got, want)
		}
		for i := range b {
			b[i].Seen = 23*(b[i].Seen/24) + b[i].Seen%24
			b[i].Included = 23*(b[i].Included/24) + b[i].Included%24
		}
		if got := repute.Hour(l); !slices.Equal(got, b) {
			t.Fatalf("%v: an hour later: %v, want %v", l, got, b)
		}
	}
}

// TestTurns has an address seen and included in many turns.
func TestTurns(t *testing.T) {
	d := sample.Dice(6)
	var l []api.Fame
	seen, included := map[api.Address]uint64{}, map[api.Address]uint64{}
	for range 3000 {
		a := rising()[d.Below(len(rising()))]
		if d.Below(3) == 0 {
			l = repute.Include(l, a)
			included[a]++
		} else {
			l = repute.See(l, a)
			seen[a]++
		}
	}
	if len(l) != len(rising()) {
		t.Fatalf("%v", l)
	}
	for i, a := range rising() {
		want := api.Fame{Addr: a, Seen: seen[a], Included: included[a]}
		if l[i] != want || repute.Find(l, a) != want {
			t.Errorf("%v, want %v", l[i], want)
		}
	}
}
