package rlp

import (
	"errors"
	"strings"
	"testing"

	"quaestor/api"
)

// TestFault shows that a failure wraps the document's error, and tells where it is.
func TestFault(t *testing.T) {
	deep := api.Item{}
	for range deepest {
		deep = api.Item{List: true, Kids: []api.Item{deep}}
	}
	tooDeep := string(Encode(deep))
	for _, x := range []struct {
		in string
		at int
	}{
		{"", 0},
		{"\x81\x05", 0},
		{"\xb8\x01\xff", 0},
		{"\x83do", 0},
		{"\x80\x80", 1},
		{"\x83dog\x00", 4},
		{"\xc2\xc0\x81", 2},
		{"\xc4\x80\xc2\x81\x05", 3},
		{"\xf8\x38" + strings.Repeat("\x80", 55) + "\x81", 57},
		{"\xc3\xc1\xc1\xc1", 2},
		{tooDeep, len(tooDeep) - 1},
	} {
		_, err := decode([]byte(x.in))
		var f fault
		switch {
		case !errors.As(err, &f):
			t.Errorf("%x: %v is not a fault", x.in, err)
		case !errors.Is(err, api.ErrRlpForm) || errors.Is(err, api.ErrAbiForm) || errors.Unwrap(err) != error(api.ErrRlpForm):
			t.Errorf("%x: %v wraps another error", x.in, err)
		case f.at != x.at:
			t.Errorf("%x: %v is not at %d", x.in, err, x.at)
		}
	}
	if _, err := decode([]byte{0xc0}); err != nil {
		t.Errorf("an empty list: %v", err)
	}
	if s := (fault{7, api.ErrRlpForm}).Error(); s != "byte 7: errno 40" {
		t.Errorf("text: %s", s)
	}
}
