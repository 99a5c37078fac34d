package fees_test

import (
	"strconv"
	"strings"
	"testing"

	"quaestor/fees"
)

// listed are the operations that the chapter lists one by one, and what each of them costs, in its words.
const listed = `00 f3 fd: 0; 5b: 1; 30 32 33 34 36 38 3a 41 42 43 44 45 46 3d 50 58 59 5a 48 5f: 2;
01 03 19 10 11 12 13 14 15 16 17 18 1a 1b 1c 1d 35 51 52 53 37 39 3e: 3; 02 04 05 06 07 0b 47: 5; 08 09 56: 8;
57 0a: 10; 40: 20; 20: 30; ff: 5000; f0 f5: 32000`

// costs are those of all bytes: the listed ones, 60 to 9f, a0 to a4, and 0 for all others.
func costs(t *testing.T) [256]uint64 {
	t.Helper()
	var l [256]uint64
	for row := range strings.SplitSeq(listed, ";") {
		of, cost, _ := strings.Cut(row, ":")
		n, err := strconv.ParseUint(strings.TrimSpace(cost), 10, 64)
		if err != nil {
			t.Fatal(err)
		}
		for op := range strings.FieldsSeq(of) {
			i, err := strconv.ParseUint(op, 16, 8)
			if err != nil {
				t.Fatal(err)
			}
			l[i] = n
		}
	}
	for i := 0x60; i <= 0x9f; i++ {
		l[i] = 3
	}
	for topics := range 5 {
		l[0xa0+topics] = uint64(375 + 375*topics)
	}
	return l
}

func TestBase(t *testing.T) {
	for i, want := range costs(t) {
		if got := fees.Base(byte(i)); got != want {
			t.Errorf("%x: %d, not %d", i, got, want)
		}
	}
}

func TestBaseEdges(t *testing.T) {
	for _, x := range []struct {
		op   byte
		want uint64
	}{
		{0x00, 0}, {0x0b, 5}, {0x0c, 0}, {0x0f, 0}, {0x1d, 3}, {0x1e, 0}, {0x20, 30}, {0x21, 0}, {0x31, 0}, {0x3b, 0}, {0x3c, 0}, {0x3f, 0},
		{0x40, 20}, {0x46, 2}, {0x47, 5}, {0x48, 2}, {0x49, 0}, {0x54, 0}, {0x55, 0}, {0x5b, 1}, {0x5c, 0}, {0x5e, 0}, {0x5f, 2}, {0x60, 3},
		{0x7f, 3}, {0x80, 3}, {0x9f, 3}, {0xa0, 375}, {0xa1, 750}, {0xa4, 1875}, {0xa5, 0}, {0xef, 0}, {0xf0, 32000}, {0xf1, 0}, {0xf2, 0},
		{0xf3, 0}, {0xf4, 0}, {0xf5, 32000}, {0xf6, 0}, {0xfa, 0}, {0xfd, 0}, {0xfe, 0}, {0xff, 5000},
	} {
		if got := fees.Base(x.op); got != x.want {
			t.Errorf("%x: %d, not %d", x.op, got, x.want)
		}
	}
}
