package repute_test

import (
	"math/big"
	"testing"

	"quaestor/api"
	"quaestor/repute"
	"quaestor/sample"
)

func TestStanding(t *testing.T) {
	const ok, throttled, banned = api.StandOK, api.StandThrottled, api.StandBanned
	for _, y := range []struct {
		seen, included uint64
		want           uint8
	}{
		{0, 0, ok}, {1, 0, ok}, {100, 0, ok}, {109, 0, ok}, {110, 0, throttled}, {119, 0, throttled}, {509, 0, throttled}, {510, 0, banned}, {519, 0, banned}, {1 << 32, 0, banned}, {most, 0, banned},
		{0, 1, ok}, {119, 1, ok}, {120, 1, throttled}, {519, 1, throttled}, {520, 1, banned},
		{1000, 90, ok}, {1109, 100, ok}, {1110, 100, throttled}, {1509, 100, throttled}, {1510, 100, banned}, {1510, 101, throttled},
		{most, most / 10, ok}, {most, most/10 - 10, ok}, {most, most/10 - 11, throttled}, {most, most/10 - 50, throttled}, {most, most/10 - 51, banned},
		{0, most, ok}, {most, most, ok}, {most, most - 10, ok}, {most, most - 11, ok}, {most, most - 50, ok}, {most, most - 51, ok}, {510, most - 9, ok}, {510, most - 49, ok}, {110, most - 9, ok},
	} {
		for _, a := range []api.Address{{}, at(5), {0xff}} {
			if got := repute.Standing(api.Fame{Addr: a, Seen: y.seen, Included: y.included}); got != y.want {
				t.Errorf("%d, %d: %d, want %d", y.seen, y.included, got, y.want)
			}
		}
	}
}

func TestQuota(t *testing.T) {
	for _, y := range []struct{ seen, included, want uint64 }{
		{0, 0, 10}, {0, 1, 11}, {0, 7, 17}, {0, 9999, 10009}, {0, 10000, 10010}, {0, 10001, 10010}, {0, most, 10010},
		{1, 0, 10}, {most, 0, 10}, {10, 5, 20}, {1, 1, 21}, {3, 1, 14}, {10, 1, 12}, {11, 1, 11}, {1, 10, 120}, {7, 100, 252}, {10, 9999, 20008}, {10, 10000, 20010}, {10, 10001, 20011},
		{1, 1<<32 - 1, 42949682960}, {1, 1 << 32, 42949682960}, {1, most, 42949682960}, {1 << 32, 1<<32 - 1, 10020}, {1<<32 - 1, 1 << 32, 10020}, {1 << 33, 1 << 33, 10020},
		{1<<32 - 1, 1 << 31, 10015}, {1 << 32, 1 << 31, 10015}, {most, 1 << 31, 10015}, {most, 1<<32 - 1, 10020}, {most, most, 10020}, {2, most, 21474846485}, {1 << 63, most, 10020},
	} {
		for _, a := range []api.Address{{}, at(5), {0xff}} {
			if got := repute.Quota(api.Fame{Addr: a, Seen: y.seen, Included: y.included}); got != y.want {
				t.Errorf("%d, %d: %d, want %d", y.seen, y.included, got, y.want)
			}
		}
	}
}

func exact(n uint64) *big.Int { return new(big.Int).SetUint64(n) }

// standing is the chapter's, over exact numbers.
func standing(f api.Fame) uint8 {
	m := exact(f.Seen / 10)
	switch {
	case m.Cmp(new(big.Int).Add(exact(f.Included), big.NewInt(50))) > 0:
		return api.StandBanned
	case m.Cmp(new(big.Int).Add(exact(f.Included), big.NewInt(10))) > 0:
		return api.StandThrottled
	}
	return api.StandOK
}

// quota is, too.
func quota(f api.Fame) *big.Int {
	sum := big.NewInt(10)
	least := func(n, most uint64) *big.Int {
		if exact(n).Cmp(exact(most)) > 0 {
			return exact(most)
		}
		return exact(n)
	}
	if f.Seen != 0 {
		q := new(big.Int).Mul(big.NewInt(10), least(f.Included, 1<<32-1))
		sum.Add(sum, q.Div(q, least(f.Seen, 1<<32-1)))
	}
	return sum.Add(sum, least(f.Included, 10000))
}

// TestExact holds standings and quotas against exact numbers: at the edges of the counts, and where these lie close to a standing's edge.
func TestExact(t *testing.T) {
	check := func(seen, included uint64) {
		t.Helper()
		f := fame(5, seen, included)
		if got := repute.Standing(f); got != standing(f) {
			t.Errorf("%v: stands as %d, not %d", f, standing(f), got)
		}
		if got := repute.Quota(f); exact(got).Cmp(quota(f)) != 0 {
			t.Errorf("%v: a quota of %d, not %d", f, quota(f), got)
		}
	}
	for _, seen := range counts() {
		for _, included := range counts() {
			check(seen, included)
		}
	}
	d := sample.Dice(7)
	for range 20000 {
		seen := d.Number() >> d.Below(64)
		check(seen, d.Number()>>d.Below(64))
		check(seen, seen/10-uint64(d.Below(70)))
		check(seen, seen/10+uint64(d.Below(3)))
	}
}
