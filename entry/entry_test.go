package entry_test

import (
	"encoding/hex"
	"testing"

	"quaestor/abi"
	"quaestor/api"
	"quaestor/desk"
	"quaestor/entry"
	"quaestor/sample"
	"quaestor/store"
)

// The functions have the signatures that the chapter lists.
var (
	_ func(*store.World, api.Block, api.Address, api.UserOp) (api.Checked, [4][]api.Event, api.Errno) = entry.Verify
	_ func(api.Checked, uint64) api.Errno                                                             = entry.Timely
	_ func(*store.World, api.Block, api.Address, api.UserOp, api.Checked) api.Paid                    = entry.Execute
	_ func(*store.World, api.Block, []api.UserOp, api.Address) ([]api.Paid, api.Word, int, api.Errno) = entry.Handle
	_ func() api.Address                                                                              = entry.Maker
)

func TestMaker(t *testing.T) {
	a := entry.Maker()
	if got := hex.EncodeToString(a[:]); got != "efc2c1444ebcc4db75e7613d20c6a62ff67a167c" {
		t.Error(got)
	}
}

// TestExample: that of the chapter.
func TestExample(t *testing.T) {
	code := assemble("32 0 RETURN") // 3 gas for each push, and 3 for the memory
	x := plain()
	for _, y := range []struct {
		code  []byte
		nonce uint64
		want  api.Errno
	}{{code, 0, api.OK}, {code, 1, api.ErrEntryNonce}, {nil, 0, api.ErrEntryNone}} {
		x.Nonce = api.Word{y.nonce}
		w := worldOf(party{me, y.code, prefund(x)})
		c, _, errno := entry.Verify(w, block(), beneficiary, x)
		if errno != y.want || errno == api.OK && c.Used != x.PreGas+9 || errno != api.OK && c.Used != 0 {
			t.Errorf("nonce %d: %v, %v, want %v", y.nonce, c, errno, y.want)
		}
	}
}

// TestTimely: what holds of the account comes first, and a wrong signature ahead of the time.
func TestTimely(t *testing.T) {
	fine := []api.Span{{}, {After: 100}, {Until: 100}, {After: 100, Until: 100}, {After: 1, Until: 1<<48 - 1}, {Until: most}}
	late := []api.Span{{After: 101}, {Until: 99}, {After: 101, Until: 99}, {After: 101, Until: 200}, {After: 1, Until: 99}, {After: most}, {Until: 1}}
	bad := []api.Span{{Bad: true}, {Bad: true, After: 101}, {Bad: true, Until: 99}, {Bad: true, After: 100, Until: 100}}
	groups := []struct {
		l              []api.Span
		account, payer api.Errno
	}{{fine, api.OK, api.OK}, {late, api.ErrEntryTime, api.ErrEntryPayTime}, {bad, api.ErrEntrySig, api.ErrEntryPaySig}}
	for _, g := range groups {
		for _, h := range groups {
			for _, account := range g.l {
				for _, payer := range h.l {
					want := g.account
					if want == api.OK {
						want = h.payer
					}
					c := api.Checked{Account: account, Payer: payer, Used: most, Context: []byte{1}, Deployed: true}
					if got := entry.Timely(c, 100); got != want || got != timely(c, 100) {
						t.Errorf("%v: %v, want %v", c, got, want)
					}
				}
			}
		}
	}
}

// TestTimelyDrawn: any spans and times.
func TestTimelyDrawn(t *testing.T) {
	d := sample.Dice(160)
	span := func() api.Span {
		near := func() uint64 { return []uint64{0, 1, 2, 3, d.Number(), most}[d.Below(6)] }
		return api.Span{Bad: d.Below(6) == 0, After: near(), Until: near()}
	}
	for range 20000 {
		c := api.Checked{Account: span(), Payer: span()}
		for _, time := range []uint64{0, 1, 2, 3, most - 1, most, d.Number()} {
			if got := entry.Timely(c, time); got != timely(c, time) {
				t.Errorf("%v at %d: %v", c, time, got)
			}
		}
	}
}

// covers says whether the entry point has all that was deposited and staked there.
func covers(w *store.World) bool {
	sum := exact(api.Word{})
	for _, e := range w.Entries() {
		if e.Addr != self {
			continue
		}
		for _, s := range e.Account.Slots {
			if what := s.Key[1] & 0xffffffff; s.Key[0] == 0 && what < 2 { // the rest are times, and nonces
				sum.Add(sum, exact(s.Value))
			}
		}
	}
	return exact(w.Balance(self)).Cmp(sum) >= 0
}

// TestCovers: of what is counted nothing is left out.
func TestCovers(t *testing.T) {
	w := worldOf(party{me, fine, 5}, party{other, fine, 7})
	if !covers(w) {
		t.Error("not covered")
	}
	w.SetBalance(self, api.Word{11})
	if covers(w) {
		t.Error("covered")
	}
	w.SetBalance(self, api.Word{12})
	stake := append(abi.Selector("addStake(uint32)"), make([]byte, 31)...)
	if _, is := desk.Call(w, 0, me, api.Word{3}, append(stake, 1), false); !is || covers(w) {
		t.Error("a stake is not counted")
	}
}
