package abi

import (
	"errors"
	"strings"
	"testing"

	"quaestor/api"
)

// TestFault shows that a failure is a part's, and wraps the document's error.
func TestFault(t *testing.T) {
	nought := strings.Repeat("\x00", size)
	far := strings.Repeat("\xff", size)
	for _, x := range []struct {
		dynamic []bool
		in      string
		part    int
	}{
		{[]bool{false}, "", 0},
		{[]bool{true}, "", 0},
		{[]bool{false, false, false}, nought + nought[1:], 1},
		{[]bool{true, false, false}, far + nought, 2}, // the heads come ahead of what they say
		{[]bool{true}, far, 0},
		{[]bool{false, true}, nought + far, 1},
		{[]bool{true, true, true}, nought + far + far, 1},
		{[]bool{true, false, true}, nought + far + far, 2},
	} {
		l, err := decode(x.dynamic, []byte(x.in))
		var f fault
		var number api.Errno
		switch {
		case l != nil:
			t.Errorf("%v of %x: %v beside %v", x.dynamic, x.in, l, err)
		case !errors.As(err, &f):
			t.Errorf("%v of %x: %v is not a fault", x.dynamic, x.in, err)
		case !errors.As(err, &number) || number != api.ErrAbiForm || errors.Unwrap(err) != error(api.ErrAbiForm):
			t.Errorf("%v of %x: %v wraps another error", x.dynamic, x.in, err)
		case f.part != x.part:
			t.Errorf("%v of %x: %v is not of part %d", x.dynamic, x.in, err, x.part)
		}
	}
	if _, err := decode([]bool{true, false}, []byte(nought+far)); err != nil {
		t.Errorf("a tail that is its head: %v", err)
	}
	if s := (fault{7, api.ErrAbiForm}).Error(); s != "part 7: errno 50" {
		t.Errorf("text: %s", s)
	}
}
