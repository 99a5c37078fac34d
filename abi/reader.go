package abi

import (
	"strconv"

	"quaestor/api"
	"quaestor/word"
)

// fault is the error of a part: of which one, counted from 0, and why.
type fault struct {
	part  int
	cause api.Errno
}

func (f fault) Error() string { return "part " + strconv.Itoa(f.part) + ": " + f.cause.Error() }

func (f fault) Unwrap() error { return f.cause }

// decode reads a part for each kind. Its strings are still pieces of b: heads that all name one long tail must cost nothing as long as one behind them may fail.
func decode(dynamic []bool, b []byte) ([]api.Part, error) {
	if n := len(b) / size; n < len(dynamic) {
		return nil, fault{n, api.ErrAbiForm}
	}
	l := make([]api.Part, len(dynamic))
	for i, d := range dynamic {
		p, ok := part(d, word.Read(b[size*i:][:size]), b)
		if !ok {
			return nil, fault{i, api.ErrAbiForm}
		}
		l[i] = p
	}
	return l, nil
}

// part is the part that a head stands for; false: its tail is not within b.
func part(dynamic bool, head api.Word, b []byte) (api.Part, bool) {
	if !dynamic {
		return api.Part{Word: head}, true
	}
	s, ok := tail(head, b)
	return api.Part{Dynamic: true, Bytes: s}, ok
}

// tail is the string whose tail begins where a head says; false: it is not within b.
func tail(head api.Word, b []byte) ([]byte, bool) {
	_, b, ok := cut(b, head)
	if !ok || len(b) < size {
		return nil, false
	}
	s, _, ok := cut(b[size:], word.Read(b[:size]))
	return s, ok
}

// cut is the first n bytes, and those behind them; false: there are not so many.
func cut(b []byte, n api.Word) ([]byte, []byte, bool) {
	i, ok := word.Small(n)
	if !ok || i > uint64(len(b)) {
		return nil, nil, false
	}
	return b[:i], b[i:], true
}
