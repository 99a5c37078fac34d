package sample

import "quaestor/api"

// Edges are the words whose parts are all at some edge.
func Edges() []api.Word {
	parts := [5]uint64{0, 1, 1<<63 - 1, 1 << 63, 1<<64 - 1}
	var l []api.Word
	for i := range 5 * 5 * 5 * 5 {
		l = append(l, api.Word{parts[i%5], parts[i/5%5], parts[i/25%5], parts[i/125]})
	}
	return l
}

// Number is any one of 64 bits.
func (d *Dice) Number() uint64 {
	return uint64(d.Below(1<<31))<<33 | uint64(d.Below(1<<31))<<2 | uint64(d.Below(4))
}

// Word is one of up to 256 bits, with long runs of equal bits now and then.
func (d *Dice) Word() api.Word {
	var a api.Word
	for i := range a {
		switch d.Below(6) {
		case 0:
		case 1:
			a[i] = ^uint64(0)
		case 2:
			a[i] = 1 << d.Below(64)
		default:
			a[i] = d.Number()
		}
	}
	top := d.Below(len(a))
	a[top] >>= d.Below(64)
	clear(a[top+1:])
	return a
}
