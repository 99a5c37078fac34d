package entry

import (
	"errors"
	"testing"

	"quaestor/api"
	"quaestor/desk"
	"quaestor/store"
)

// TestFailures: a failure tells its step, and wraps its number, which errors.As finds.
func TestFailures(t *testing.T) {
	me, fine, half := api.Address{1}, []byte{0x60, 0x20, 0x5f, 0xf3}, []byte{0x60, 0x10, 0x5f, 0xf3}
	x := api.UserOp{Sender: me, VerifyGas: 50000, MaxFee: api.Word{1}}
	with := func(change func(*api.UserOp)) api.UserOp {
		y := x
		change(&y)
		return y
	}
	for _, y := range []struct {
		op    api.UserOp
		code  []byte
		step  string
		errno api.Errno
	}{
		{x, fine, "", api.OK},
		{with(func(x *api.UserOp) { x.MaxTip = api.Word{2} }), fine, "form", api.ErrOpForm},
		{x, nil, "sender", api.ErrEntryNone},
		{with(func(x *api.UserOp) { x.HasFactory = true }), fine, "sender", api.ErrEntryThere},
		{with(func(x *api.UserOp) { x.HasFactory = true }), nil, "factory", api.ErrEntryCreate},
		{x, half, "validation", api.ErrEntryRevert},
		{with(func(x *api.UserOp) { x.MaxFee = api.Word{2} }), fine, "prefund", api.ErrEntryFunds},
		{with(func(x *api.UserOp) { x.Nonce = api.Word{2} }), fine, "nonce", api.ErrEntryNonce},
		{with(func(x *api.UserOp) { x.HasPaymaster = true }), fine, "paymaster", api.ErrEntryPayNone},
		{with(func(x *api.UserOp) { x.HasPaymaster, x.Paymaster, x.PostGas = true, me, 1 }), fine, "paymaster", api.ErrEntryDeposit},
		{with(func(x *api.UserOp) { x.HasPaymaster, x.Paymaster = true, me }), fine, "paymaster", api.ErrEntryPayer},
	} {
		w := store.New([]api.Entry{{Addr: me, Account: api.Account{Code: y.code}}})
		desk.Credit(w, me, api.Word{50000})
		v := verification{visit: visit{World: w, op: y.op}}
		err := v.run()
		if y.errno == api.OK {
			if err != nil {
				t.Error(err)
			}
			continue
		}
		var f failure
		var errno api.Errno
		if !errors.As(err, &f) || f.step != y.step || !errors.As(err, &errno) || errno != y.errno || !errors.Is(err, y.errno) || errors.Unwrap(err) != y.errno {
			t.Errorf("%v, want %s: %v", err, y.step, y.errno)
		}
	}
}

func TestFailureText(t *testing.T) {
	if s := (failure{"nonce", api.ErrEntryNonce}).Error(); s != "nonce: errno 169" {
		t.Error(s)
	}
}
