package foot_test

import (
	"slices"

	"quaestor/api"
	"quaestor/sample"
	"quaestor/word"
)

const most uint64 = 1<<64 - 1

// at is an address that is a small number.
func at(n uint64) api.Address { return word.Addr(word.From(n)) }

// slot is one of the account 7, and whole is an account as a whole.
func slot(n uint64) api.Place       { return api.Place{Addr: at(7), Key: word.From(n)} }
func whole(a api.Address) api.Place { return api.Place{Addr: a, Whole: true} }

// list, reads, writes and both make lists of places, and feet.
func list(l ...api.Place) []api.Place { return l }
func reads(l ...api.Place) api.Foot   { return api.Foot{Reads: l} }
func writes(l ...api.Place) api.Foot  { return api.Foot{Writes: l} }
func both(r, w []api.Place) api.Foot  { return api.Foot{Reads: r, Writes: w} }

// equal says whether two feet are the same, in the same order.
func equal(f, g api.Foot) bool {
	return slices.Equal(f.Reads, g.Reads) && slices.Equal(f.Writes, g.Writes)
}

// clone is a foot with memory of its own.
func clone(f api.Foot) api.Foot { return both(slices.Clone(f.Reads), slices.Clone(f.Writes)) }

// rising are places in their order, at the edges of addresses and keys.
func rising() []api.Place {
	var l []api.Place
	for _, a := range []api.Address{{}, {19: 1}, {19: 0xff}, {18: 1}, {1}, {1, 19: 1}, {0x7f}, {0x80}, {0xff, 19: 0xfe}} {
		l = append(l, whole(a))
		for _, key := range []api.Word{{}, {1}, {1 << 63}, {most}, {0, 1}, {5, 1}, {0, 0, 1}, {0, 0, 0, 1}, {9, 0, 0, 1}, {0, 0, 0, 1 << 63}, {most, most, most, most}} {
			l = append(l, api.Place{Addr: a, Key: key})
		}
	}
	return l
}

// near are the places that differ from one in a single bit.
func near(p api.Place) []api.Place {
	other := p
	other.Whole = !p.Whole
	l := []api.Place{other}
	for bit := range 160 {
		other = p
		other.Addr[bit/8] ^= 1 << (bit % 8)
		l = append(l, other)
	}
	for bit := range 256 {
		other = p
		other.Key[bit/64] ^= 1 << (bit % 64)
		l = append(l, other)
	}
	return l
}

// mix brings places into another order.
func mix(d *sample.Dice, l []api.Place) []api.Place {
	l = slices.Clone(l)
	for i := range l {
		j := i + d.Below(len(l)-i)
		l[i], l[j] = l[j], l[i]
	}
	return l
}

// drawn is a foot of up to n reads and n writes, some of them more than once, among few places if those are few.
func drawn(d *sample.Dice, n int, among []api.Place) api.Foot {
	pick := func() []api.Place {
		var l []api.Place
		for range d.Below(n + 1) {
			l = append(l, among[d.Below(len(among))])
		}
		return l
	}
	return both(pick(), pick())
}
