package userop_test

import (
	"math/big"
	"testing"

	"quaestor/api"
	"quaestor/sample"
	"quaestor/userop"
)

// spans is what a word says, in the chapter's words over exact numbers.
func spans(a api.Word) api.Span {
	high, low := new(big.Int).DivMod(exact(a), power(160), new(big.Int))
	after, until := new(big.Int).DivMod(high, power(48), new(big.Int))
	return api.Span{Bad: low.Sign() > 0, Until: until.Uint64(), After: after.Uint64()}
}

func TestSpans(t *testing.T) {
	check := func(a api.Word) {
		if got := userop.Spans(a); got != spans(a) {
			t.Errorf("Spans(%x) = %v, want %v", a, got, spans(a))
		}
	}
	check(api.Word{})
	for bit := range 256 {
		a := api.Word{}
		a[bit/64] = 1 << (bit % 64)
		check(a)
		for i := range a {
			a[i] = ^a[i]
		}
		check(a)
		s, want := userop.Spans(a), api.Span{Bad: true, Until: 1<<48 - 1, After: 1<<48 - 1}
		if bit >= 208 {
			want.After ^= 1 << (bit - 208)
		} else if bit >= 160 {
			want.Until ^= 1 << (bit - 160)
		}
		if s != want {
			t.Errorf("all bits but %d: %v", bit, s)
		}
	}
	for _, a := range sample.Edges() {
		check(a)
	}
	d := sample.Dice(11)
	for range 3000 {
		check(d.Word())
	}
}

func TestNow(t *testing.T) {
	edges := []uint64{0, 1, 2, 99, 100, 101, 1<<48 - 1, 1 << 48, 1 << 63, most - 1, most}
	for _, after := range edges {
		for _, until := range edges {
			for _, time := range edges {
				want := time >= after && (until == 0 || time <= until)
				if got := userop.Now(api.Span{After: after, Until: until}, time); got != want {
					t.Errorf("from %d until %d: at %d %v", after, until, time, got)
				}
				if userop.Now(api.Span{Bad: true, After: after, Until: until}, time) {
					t.Errorf("bad, from %d until %d: at %d it holds", after, until, time)
				}
			}
		}
	}
}

// TestExamples: those of the chapter.
func TestExamples(t *testing.T) {
	if !userop.Spans(api.Word{1}).Bad {
		t.Error("Spans(1) is not bad")
	}
	s := userop.Spans(api.Word{2: 100 << 32})
	if s != (api.Span{Until: 100}) || !userop.Now(s, 100) || userop.Now(s, 101) {
		t.Errorf("%v", s)
	}
}
