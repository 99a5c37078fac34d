package json

import (
	"strconv"
	"strings"

	"quaestor/api"
)

const (
	blanks  = " \t\n\r"
	digits  = "0123456789"
	hex     = digits + "abcdef" + "ABCDEF"
	escapes = `"\/bfnrt`
	escaped = "\"\\/\b\f\n\r\t" // what each of the escapes represents
)

// fault is an error, and at which byte of the text it is.
type fault struct {
	at    int
	cause api.Errno
}

func (f fault) Error() string { return "byte " + strconv.Itoa(f.at) + ": " + f.cause.Error() }

func (f fault) Unwrap() error { return f.cause }

// reader takes values off the front of a text. What it can't take it leaves: there a fault is.
type reader struct {
	s    string
	at   int // where the rest begins
	open int // how many lists and objects are open
}

// parse reads a text that is one value.
func parse(s string) (api.Json, error) {
	if len(s) > api.MaxJSON {
		return api.Json{}, api.ErrJsonLong
	}
	r := reader{s: s}
	x, err := r.value()
	if err != nil {
		return api.Json{}, err
	}
	r.skip()
	if r.at < len(s) {
		return api.Json{}, r.wrong()
	}
	return x, nil
}

// value takes a value off, with the blanks ahead of it.
func (r *reader) value() (api.Json, error) {
	r.skip()
	switch r.peek() {
	case 'n':
		return api.Json{Kind: api.JsonNull}, r.name("null")
	case 'f':
		return api.Json{Kind: api.JsonFalse}, r.name("false")
	case 't':
		return api.Json{Kind: api.JsonTrue}, r.name("true")
	case '"':
		s, err := r.text()
		return api.Json{Kind: api.JsonText, Text: s}, err
	case '[':
		return r.list()
	case '{':
		return r.object()
	}
	s, err := r.number()
	return api.Json{Kind: api.JsonNumber, Text: s}, err
}

// name takes the bytes of a name off.
func (r *reader) name(s string) error {
	for i := range len(s) {
		if !r.has(s[i : i+1]) {
			return r.wrong()
		}
	}
	return nil
}

// number takes a number off, as it is written.
func (r *reader) number() (string, error) {
	start := r.at
	r.has("-")
	if !r.has("0") { // behind which no digit may come
		if err := r.count(); err != nil {
			return "", err
		}
	}
	if r.has(".") {
		if err := r.count(); err != nil {
			return "", err
		}
	}
	if r.has("eE") {
		r.has("+-")
		if err := r.count(); err != nil {
			return "", err
		}
	}
	return strings.Clone(r.s[start:r.at]), nil
}

// count takes digits off: one, and all behind it.
func (r *reader) count() error {
	if !r.has(digits) {
		return r.wrong()
	}
	for r.has(digits) {
	}
	return nil
}

func (r *reader) list() (api.Json, error) {
	x := api.Json{Kind: api.JsonList}
	err := r.within("]", func() error {
		kid, err := r.value()
		x.Kids = append(x.Kids, kid)
		return err
	})
	return x, err
}

func (r *reader) object() (api.Json, error) {
	x := api.Json{Kind: api.JsonObject}
	err := r.within("}", func() error {
		key, err := r.key()
		if err != nil {
			return err
		}
		kid, err := r.value()
		x.Keys, x.Kids = append(x.Keys, key), append(x.Kids, kid)
		return err
	})
	return x, err
}

// within takes the bracket off that comes next, all up to the one that closes it, and that; each time that one of what they hold is to come, take is called.
func (r *reader) within(end string, take func() error) error {
	if r.open == api.MaxDeep {
		return fault{r.at, api.ErrJsonDeep}
	}
	r.open++
	defer func() { r.open-- }()
	r.at++
	r.skip()
	if r.has(end) {
		return nil
	}
	for {
		if err := take(); err != nil {
			return err
		}
		r.skip()
		if !r.has(",") {
			return r.must(end)
		}
	}
}

// key takes a field's string off, with the blanks around it, and the colon.
func (r *reader) key() (string, error) {
	r.skip()
	s, err := r.text()
	if err != nil {
		return "", err
	}
	r.skip()
	return s, r.must(":")
}

// skip takes blanks off.
func (r *reader) skip() {
	for r.has(blanks) {
	}
}

// must takes the next byte off, which is to be one of a set.
func (r *reader) must(set string) error {
	if !r.has(set) {
		return r.wrong()
	}
	return nil
}

// has takes the next byte off if it is one of a set, and tells whether it is.
func (r *reader) has(set string) bool {
	_, ok := r.which(set)
	return ok
}

// which does so, and tells which one of the set it is.
func (r *reader) which(set string) (int, bool) {
	if r.at == len(r.s) {
		return 0, false
	}
	i := strings.IndexByte(set, r.s[r.at])
	if i < 0 {
		return 0, false
	}
	r.at++
	return i, true
}

// peek is the next byte; at the end it is 0, which may come next as little as the end may.
func (r *reader) peek() byte {
	if r.at == len(r.s) {
		return 0
	}
	return r.s[r.at]
}

// wrong is the error that the next byte, or the end, may not come here.
func (r *reader) wrong() error { return fault{r.at, api.ErrJsonForm} }
