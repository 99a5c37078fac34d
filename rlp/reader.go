package rlp

import (
	"strconv"

	"quaestor/api"
)

// deepest is how deep items may be nested in what is decoded.
const deepest = 64

// fault is an error, and where in the bytes it is: at the head of the item that is none, or at what stands behind the whole.
type fault struct {
	at    int
	cause error
}

func (f fault) Error() string { return "byte " + strconv.Itoa(f.at) + ": " + f.cause.Error() }

func (f fault) Unwrap() error { return f.cause }

// reader takes items off the front of bytes: of all of them, or of a list's body.
type reader struct {
	rest []byte
	at   int // where the rest begins among all bytes
	deep int // how deep its items are nested
}

// decode reads bytes that are one item.
func decode(b []byte) (api.Item, error) {
	r := reader{rest: b, deep: 1}
	x, err := r.item()
	switch {
	case err != nil:
		return api.Item{}, err
	case len(r.rest) > 0:
		return api.Item{}, fault{r.at, api.ErrRlpForm}
	}
	return x, nil
}

// items takes all items off.
func (r *reader) items() ([]api.Item, error) {
	var l []api.Item
	for len(r.rest) > 0 {
		x, err := r.item()
		if err != nil {
			return nil, err
		}
		l = append(l, x)
	}
	return l, nil
}

// item takes an item off.
func (r *reader) item() (api.Item, error) {
	start := r.at
	first, body, ok := r.split()
	switch {
	case !ok || r.deep > deepest:
		return api.Item{}, fault{start, api.ErrRlpForm}
	case first < list:
		return api.Item{Bytes: append([]byte(nil), body...)}, nil
	}
	inner := reader{rest: body, at: r.at - len(body), deep: r.deep + 1}
	kids, err := inner.items()
	if err != nil {
		return api.Item{}, err
	}
	return api.Item{List: true, Kids: kids}, nil
}

// split takes an item off as its first byte and its body, which for a string without a head are the same; false: it is none, or could be written shorter.
func (r *reader) split() (byte, []byte, bool) {
	head, ok := r.take(1)
	if !ok {
		return 0, nil, false
	}
	first := head[0]
	if first < text {
		return first, head, true
	}
	n, ok := r.length(first)
	if !ok {
		return 0, nil, false
	}
	body, ok := r.take(n)
	if !ok || first < list && bare(body) {
		return 0, nil, false
	}
	return first, body, true
}

// length takes off what of a head stands behind its first byte, and tells how long the body is; false: the head ends early, or could be shorter.
func (r *reader) length(first byte) (uint64, bool) {
	n := uint64(first % (list - text)) // what the head adds to that of an empty string or list
	if n <= short {
		return n, true
	}
	number, ok := r.take(n - short)
	if !ok {
		return 0, false
	}
	n = 0
	for _, c := range number {
		n = n<<8 | uint64(c)
	}
	return n, number[0] > 0 && n > short
}

// take takes bytes off the front; false: there are not so many.
func (r *reader) take(n uint64) ([]byte, bool) {
	if n > uint64(len(r.rest)) {
		return nil, false
	}
	b := r.rest[:n]
	r.rest, r.at = r.rest[n:], r.at+len(b)
	return b, true
}
