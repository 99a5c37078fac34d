package vm

import (
	"errors"
	"testing"

	"quaestor/api"
	"quaestor/store"
)

// endingOf is the error that ends the frame of code.
func endingOf(text []byte, gas uint64) error {
	a := api.Address{1}
	m := newMachine(store.New([]api.Entry{{Addr: a, Account: api.Account{Code: text}}}), api.Block{}, a, api.Word{})
	m.begin(task{caller: a, self: a, target: a, gas: gas})
	for {
		if err := m.frames[0].step(); err != nil {
			return err
		}
	}
}

// TestEndings: what ends frames wraps its reason, whose number errors.As finds where it is a fault.
func TestEndings(t *testing.T) {
	for _, x := range []struct {
		code  []byte
		gas   uint64
		cause error
		op    byte
	}{
		{[]byte{0xfe}, 100, api.ErrVMOp, 0xfe}, {[]byte{1}, 100, api.ErrVMStack, 1}, {[]byte{0x5f, 0x56}, 100, api.ErrVMJump, 0x56}, {[]byte{0x5b}, 0, api.ErrVMGas, 0x5b}, {[]byte{0x60, 1, 0x5f, 0x5f, 0x3e}, 100, api.ErrVMRange, 0x3e},
		{[]byte{0}, 100, errDone, 0}, {[]byte{0x5f, 0x5f, 0xf3}, 100, errDone, 0xf3}, {[]byte{0x5f, 0x5f, 0xfd}, 100, errReverted, 0xfd},
	} {
		err := endingOf(x.code, x.gas)
		var e ending
		if !errors.As(err, &e) || e.op != x.op || !errors.Is(err, x.cause) || errors.Unwrap(err) != x.cause {
			t.Errorf("%x: %v, want %v", x.code, err, x.cause)
		}
		var errno, want api.Errno
		errors.As(x.cause, &want)
		if is := errors.As(err, &errno); errno != want || is != (want != api.OK) {
			t.Errorf("%x: %v, want %v", x.code, errno, want)
		}
	}
}

func TestEndingText(t *testing.T) {
	if s := (ending{op: 0xfe, cause: api.ErrVMOp}).Error(); s != "operation fe: errno 133" {
		t.Error(s)
	}
}
