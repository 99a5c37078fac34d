package desk

import (
	"bytes"
	"errors"
	"strings"

	"quaestor/abi"
	"quaestor/api"
	"quaestor/store"
	"quaestor/word"
)

// visit is a call of the entry point while it is performed.
type visit struct {
	*store.World
	now    uint64
	caller api.Address
	value  api.Word
}

// Call is a call of the entry point: what it answers; false: it is refused.
func Call(w *store.World, now uint64, caller api.Address, value api.Word, input []byte, static bool) ([]byte, bool) {
	out, err := visit{w, now, caller, value}.perform(input, static)
	if errors.Is(err, errRejected) {
		return nil, false
	}
	return out, true
}

// perform is what the call answers that an input asks for. Its errors are rejections.
func (v visit) perform(input []byte, static bool) ([]byte, error) {
	s, rest, is := find(input)
	if !is {
		return nil, rejection{s.name, errName}
	}
	out, err := v.serve(s, rest, static)
	if err != nil {
		return nil, rejection{s.name, err}
	}
	return out, nil
}

// find is the call that an input asks for, and what stands behind its selector; false: there is none.
func find(input []byte) (service, []byte, bool) {
	if len(input) == 0 {
		return plain(), nil, true
	}
	for _, s := range services() {
		if rest, is := bytes.CutPrefix(input, abi.Selector(s.name)); is {
			return s, rest, true
		}
	}
	return service{name: "unknown"}, nil, false
}

// serve does what a call does with the arguments that it is given; the error is why it does not.
func (v visit) serve(s service, given []byte, static bool) ([]byte, error) {
	switch {
	case static && !s.asks:
		return nil, errStatic
	case v.value != api.Word{} && !s.takes:
		return nil, errValue
	}
	a, err := arguments(s.name, given)
	if err != nil {
		return nil, err
	}
	return s.do(v, a)
}

// arguments are those of a call with that name.
func arguments(name string, given []byte) ([]api.Word, error) {
	kinds := strings.FieldsFunc(name, func(r rune) bool { return strings.ContainsRune("(,)", r) })
	kinds = kinds[1:] // behind the bare name
	parts, errno := abi.Decode(make([]bool, len(kinds)), given)
	if errno != api.OK {
		return nil, errno
	}
	var l []api.Word
	for i, p := range parts {
		if kinds[i] == "address" && p.Word != word.Wide(word.Addr(p.Word)) {
			return nil, errAddress
		}
		l = append(l, p.Word)
	}
	return l, nil
}
