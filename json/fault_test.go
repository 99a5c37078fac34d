package json

import (
	"errors"
	"strings"
	"testing"

	"quaestor/api"
)

// TestFault shows that a failure wraps the document's error, and tells where it is.
func TestFault(t *testing.T) {
	for _, x := range []struct {
		in    string
		cause api.Errno
		at    int
	}{
		{"", api.ErrJsonForm, 0},
		{"[1,]", api.ErrJsonForm, 3},
		{"1 2", api.ErrJsonForm, 2},
		{`{"a":"\x"}`, api.ErrJsonForm, 7},
		{`"\ud83d\u`, api.ErrJsonForm, 9},
		{strings.Repeat("[", 17), api.ErrJsonDeep, 16},
	} {
		_, err := parse(x.in)
		var f fault
		var number api.Errno
		switch {
		case !errors.As(err, &f) || !errors.As(err, &number):
			t.Errorf("%s: %v is not a fault", x.in, err)
		case !errors.Is(err, x.cause) || errors.Is(err, api.ErrRlpForm) || number != x.cause || errors.Unwrap(err) != error(x.cause):
			t.Errorf("%s: %v wraps another error", x.in, err)
		case f.at != x.at:
			t.Errorf("%s: %v is not at %d", x.in, err, x.at)
		}
	}
	if _, err := parse(strings.Repeat(" ", api.MaxJSON+1)); !errors.Is(err, api.ErrJsonLong) {
		t.Errorf("a long text: %v", err)
	}
	if _, err := parse("[]"); err != nil {
		t.Errorf("an empty list: %v", err)
	}
	if s := (fault{7, api.ErrJsonForm}).Error(); s != "byte 7: errno 70" {
		t.Errorf("text: %s", s)
	}
}
