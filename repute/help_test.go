package repute_test

import (
	"bytes"
	"slices"

	"quaestor/api"
	"quaestor/sample"
)

const most uint64 = 1<<64 - 1

// at is an address that is a small number.
func at(n byte) api.Address { return api.Address{19: n} }

// fame is an entry of such an address.
func fame(n byte, seen, included uint64) api.Fame {
	return api.Fame{Addr: at(n), Seen: seen, Included: included}
}

func list(l ...api.Fame) []api.Fame { return l }

// rising are addresses in their order, at the edges of bytes.
func rising() []api.Address {
	return []api.Address{{}, {19: 1}, {19: 0x7f}, {19: 0x80}, {19: 0xff}, {18: 1}, {18: 1, 19: 1}, {18: 0xff, 19: 0xff}, {9: 1}, {1: 1}, {1: 0xff, 19: 2}, {1}, {1, 19: 1}, {2}, {0x7f, 19: 0xff}, {0x80}, {0xff}, {0xff, 19: 0xfe}, {0xff, 0xff}}
}

// near are the addresses that differ from one in a single bit.
func near(a api.Address) []api.Address {
	var l []api.Address
	for bit := range 160 {
		other := a
		other[bit/8] ^= 1 << (bit % 8)
		l = append(l, other)
	}
	return l
}

// mix brings entries into another order.
func mix(d *sample.Dice, l []api.Fame) []api.Fame {
	l = slices.Clone(l)
	for i := range l {
		j := i + d.Below(len(l)-i)
		l[i], l[j] = l[j], l[i]
	}
	return l
}

// counts are numbers at the edges of what the functions tell apart.
func counts() []uint64 {
	var l []uint64
	for _, n := range []uint64{0, 24, 10, 100, 110, 500, 510, 1000, 10000, 100000, 1 << 31, 1 << 32, 1 << 63, 10 << 32, most - 60, most - 50, most - 10} {
		for i := range uint64(5) {
			l = append(l, n+i-2)
		}
	}
	for _, n := range []uint64{0, 0, 10, 50} { // where a tenth of the greatest number stands
		l = append(l, most/10-n, most/10-n-1, most/10-n+1)
	}
	slices.Sort(l)
	return slices.Compact(l)
}

// drawn is a list of up to n entries in any order, of few addresses, so that many come again; some count nothing.
func drawn(d *sample.Dice, n int) []api.Fame {
	var l []api.Fame
	among, some := rising()[:1+d.Below(len(rising()))], counts()
	for range d.Below(n + 1) {
		f := api.Fame{Addr: among[d.Below(len(among))]}
		if d.Below(3) != 0 {
			f.Seen = some[d.Below(len(some))]
		}
		if d.Below(3) != 0 {
			f.Included = some[d.Below(len(some))]
		}
		l = append(l, f)
	}
	return l
}

// inserted is the book of a list in the chapter's words: entry by entry, a later one in the place of an earlier one.
func inserted(l []api.Fame) []api.Fame {
	var b []api.Fame
	for _, f := range l {
		i := 0
		for i < len(b) && bytes.Compare(b[i].Addr[:], f.Addr[:]) < 0 {
			i++
		}
		if i < len(b) && b[i].Addr == f.Addr {
			b[i] = f
			continue
		}
		b = slices.Concat(b[:i], list(f), b[i:])
	}
	return slices.DeleteFunc(b, func(f api.Fame) bool { return f.Seen == 0 && f.Included == 0 })
}
