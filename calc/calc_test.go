package calc_test

import (
	"slices"
	"testing"

	"quaestor/api"
	"quaestor/calc"
	"quaestor/sample"
)

// The call has the signature that the chapter lists.
var _ func(byte, ...api.Word) (api.Word, bool) = calc.Do

const most uint64 = 1<<64 - 1

// minus is a small number below 0.
func minus(n uint64) api.Word { return api.Word{-n, most, most, most} }

// least is the least signed number.
var least = api.Word{0, 0, 0, 1 << 63}

func TestDoKnown(t *testing.T) {
	zero, one := api.Word{}, api.Word{1}
	for _, x := range []struct {
		op   byte
		args []api.Word
		want api.Word
	}{
		{0x01, []api.Word{minus(1), {2}}, one},
		{0x02, []api.Word{minus(3), {2}}, minus(6)},
		{0x02, []api.Word{{0, 0, 1}, {0, 0, 1}}, zero},
		{0x03, []api.Word{{1}, {2}}, minus(1)},
		{0x03, []api.Word{{2}, {1}}, one},
		{0x04, []api.Word{{7}, {2}}, api.Word{3}},
		{0x04, []api.Word{{7}, zero}, zero},
		{0x05, []api.Word{minus(7), {2}}, minus(3)},
		{0x05, []api.Word{least, minus(1)}, least},
		{0x05, []api.Word{minus(7), zero}, zero},
		{0x06, []api.Word{{7}, {4}}, api.Word{3}},
		{0x06, []api.Word{{7}, zero}, zero},
		{0x07, []api.Word{minus(7), {4}}, minus(3)},
		{0x07, []api.Word{{7}, minus(4)}, api.Word{3}},
		{0x07, []api.Word{minus(7), zero}, zero},
		{0x08, []api.Word{minus(1), one, least}, zero},
		{0x08, []api.Word{minus(1), {2}, {10}}, api.Word{7}}, // 2^256 - 1 ends in 5
		{0x08, []api.Word{{5}, {6}, zero}, zero},
		{0x09, []api.Word{least, {2}, {3}}, one},
		{0x09, []api.Word{{5}, {6}, zero}, zero},
		{0x0a, []api.Word{{2}, {10}}, api.Word{1024}},
		{0x0a, []api.Word{{10}, {2}}, api.Word{100}},
		{0x0a, []api.Word{zero, zero}, one},
		{0x0b, []api.Word{zero, {0xff}}, minus(1)},
		{0x0b, []api.Word{one, {0xff}}, api.Word{0xff}},
		{0x0b, []api.Word{{31}, {0xff}}, api.Word{0xff}},
		{0x10, []api.Word{{1}, {2}}, one},
		{0x10, []api.Word{{2}, {2}}, zero},
		{0x10, []api.Word{minus(1), {2}}, zero},
		{0x11, []api.Word{{2}, {1}}, one},
		{0x11, []api.Word{{2}, {2}}, zero},
		{0x11, []api.Word{minus(1), {2}}, one},
		{0x12, []api.Word{minus(1), {2}}, one},
		{0x12, []api.Word{minus(1), minus(1)}, zero},
		{0x12, []api.Word{{2}, minus(1)}, zero},
		{0x13, []api.Word{{2}, minus(1)}, one},
		{0x13, []api.Word{minus(1), minus(1)}, zero},
		{0x13, []api.Word{minus(1), {2}}, zero},
		{0x14, []api.Word{{1, 2, 3, 4}, {1, 2, 3, 4}}, one},
		{0x14, []api.Word{{1, 2, 3, 4}, {1, 2, 3, 5}}, zero},
		{0x15, []api.Word{zero}, one},
		{0x15, []api.Word{one}, zero},
		{0x15, []api.Word{least}, zero},
		{0x16, []api.Word{{6, 5, 4, 3}, {3, 6, 5, 4}}, api.Word{2, 4, 4, 0}},
		{0x17, []api.Word{{6, 5, 4, 3}, {3, 6, 5, 4}}, api.Word{7, 7, 5, 7}},
		{0x18, []api.Word{{6, 5, 4, 3}, {3, 6, 5, 4}}, api.Word{5, 3, 1, 7}},
		{0x19, []api.Word{{6, 5, 4, 3}}, api.Word{^uint64(6), ^uint64(5), ^uint64(4), ^uint64(3)}},
		{0x19, []api.Word{zero}, minus(1)},
		{0x1a, []api.Word{{31}, {0xabcd}}, api.Word{0xcd}},
		{0x1a, []api.Word{{32}, {0xabcd}}, zero},
		{0x1b, []api.Word{{4}, {1}}, api.Word{16}},
		{0x1b, []api.Word{{256}, {1}}, zero},
		{0x1c, []api.Word{{1}, {5}}, api.Word{2}},
		{0x1c, []api.Word{{255}, minus(1)}, one},
		{0x1c, []api.Word{{256}, minus(1)}, zero},
		{0x1d, []api.Word{{1}, minus(3)}, minus(2)},
		{0x1d, []api.Word{{256}, minus(3)}, minus(1)},
		{0x1d, []api.Word{{256}, {3}}, zero},
	} {
		if got, is := calc.Do(x.op, x.args...); got != x.want || !is {
			t.Errorf("%x of %x: %x, %v, not %x", x.op, x.args, got, is, x.want)
		}
	}
}

// TestDoWhich goes through all bytes, each with no words up to more than any operation takes.
func TestDoWhich(t *testing.T) {
	l := slices.Repeat([]api.Word{{1, 2, 3, 4}}, 20)
	for i := range 256 {
		op := byte(i)
		for n := range len(l) + 1 {
			got, is := calc.Do(op, l[:n]...)
			if is != (n > 0 && n == takes(op)) {
				t.Errorf("%x of %d words: %v", op, n, is)
			}
			if !is && got != (api.Word{}) {
				t.Errorf("%x of %d words: %x", op, n, got)
			}
		}
	}
}

// TestDoArguments shows that the arguments are not changed, and that words behind them count for nothing.
func TestDoArguments(t *testing.T) {
	d := sample.Dice(1)
	for range 200 {
		given := []api.Word{d.Word(), d.Word(), d.Word(), d.Word()}
		for _, x := range told() {
			l := slices.Clone(given)
			got, _ := calc.Do(x.op, l[:x.takes]...)
			if !slices.Equal(l, given) {
				t.Fatalf("%x of %x: an argument was changed", x.op, given[:x.takes])
			}
			alone, _ := calc.Do(x.op, slices.Clip(slices.Clone(given[:x.takes]))...)
			if got != alone {
				t.Fatalf("%x of %x: words behind the arguments count", x.op, given[:x.takes])
			}
		}
	}
}
