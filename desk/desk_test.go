package desk_test

import (
	"math/big"
	"slices"
	"testing"

	"quaestor/api"
	"quaestor/desk"
	"quaestor/sample"
	"quaestor/store"
	"quaestor/word"
)

// The functions have the signatures that the chapter lists.
var (
	_ func() api.Address                                                             = desk.Self
	_ func(*store.World, api.Address) api.Word                                       = desk.Deposit
	_ func(*store.World, api.Address, api.Word)                                      = desk.Credit
	_ func(*store.World, api.Address, api.Word) bool                                 = desk.Debit
	_ func(*store.World, api.Address) api.Stake                                      = desk.StakeOf
	_ func(*store.World, api.Address, api.Word) api.Word                             = desk.Nonce
	_ func(*store.World, api.Address, api.Word) bool                                 = desk.Use
	_ func(*store.World, uint64, api.Address, api.Word, []byte, bool) ([]byte, bool) = desk.Call
)

const most uint64 = 1<<64 - 1

var all = api.Word{most, most, most, most}

// What is kept of an address, by how many times 2^64 its slot stands behind the address.
const (
	deposit = iota
	stake
	times
	sequence
)

// number is a word as an exact number.
func number(a api.Word) *big.Int { return new(big.Int).SetBytes(word.Bytes(a)) }

// asWord is an exact number below 2^256 as a word.
func asWord(n *big.Int) api.Word { return word.Read(n.Bytes()) }

func power(n uint) *big.Int { return new(big.Int).Lsh(big.NewInt(1), n) }

// keyOf is the key of a slot, in the chapter's words.
func keyOf(a api.Address, kind int64, key uint64) api.Word {
	n := new(big.Int).Mul(new(big.Int).SetBytes(a[:]), power(96))
	n.Add(n, new(big.Int).Mul(big.NewInt(kind), power(64)))
	return asWord(n.Add(n, new(big.Int).SetUint64(key)))
}

// addresses are some that are at edges, the entry point among them.
func addresses() []api.Address {
	full := api.Address{}
	for i := range full {
		full[i] = 0xff
	}
	return []api.Address{{}, {19: 1}, {19: 2}, {1}, {0x80, 19: 0xff}, full, desk.Self()}
}

// world is one in which the entry point has a balance and slots.
func world(balance api.Word, slots ...api.Slot) *store.World {
	return store.New([]api.Entry{{Addr: desk.Self(), Account: api.Account{Balance: balance, Slots: slots}}})
}

// same fails if a World has not just the slots of the entry point that are given, and that balance.
func same(t *testing.T, w *store.World, balance api.Word, slots ...api.Slot) {
	t.Helper()
	got, want := w.Entries(), world(balance, slots...).Entries()
	equal := slices.EqualFunc(got, want, func(x, y api.Entry) bool {
		return x.Addr == y.Addr && x.Account.Nonce == y.Account.Nonce && x.Account.Balance == y.Account.Balance &&
			slices.Equal(x.Account.Code, y.Account.Code) && slices.Equal(x.Account.Slots, y.Account.Slots)
	})
	if !equal {
		t.Errorf("the World is %v, want %v", got, want)
	}
}

func TestSelf(t *testing.T) {
	want := api.Address{0, 0, 0, 0, 0x71, 0x72, 0x7d, 0xe2, 0x2e, 0x5e, 0x9d, 0x8b, 0xaf, 0x0e, 0xda, 0xc6, 0xf3, 0x7d, 0xa0, 0x32}
	if desk.Self() != want {
		t.Errorf("Self() = %x", desk.Self())
	}
}

// TestSlotsApart: what the chapter keeps is in slots that are none of the others.
func TestSlotsApart(t *testing.T) {
	for _, a := range addresses() {
		w := world(api.Word{})
		desk.Credit(w, a, api.Word{5, 0, 0, 7})
		same(t, w, api.Word{}, api.Slot{Key: keyOf(a, deposit, 0), Value: api.Word{5, 0, 0, 7}})
		for _, b := range addresses() {
			if a != b && desk.Deposit(w, b) != (api.Word{}) || desk.StakeOf(w, b) != (api.Stake{}) || desk.Nonce(w, b, api.Word{}) != (api.Word{}) {
				t.Errorf("%x has something by the deposit of %x", b, a)
			}
		}
		for _, key := range []uint64{0, 1, 1 << 32, most} {
			w := world(api.Word{})
			if !desk.Use(w, a, api.Word{0, key}) {
				t.Errorf("the first nonce of key %d is not the next one", key)
			}
			same(t, w, api.Word{}, api.Slot{Key: keyOf(a, sequence, key), Value: api.Word{1}})
		}
	}
}

func TestDeposits(t *testing.T) {
	a := api.Address{7}
	key := keyOf(a, deposit, 0)
	edges := []api.Word{{}, {1}, {2}, {most}, {0, 1}, {most, most, most}, {0, 0, 0, 1}, {most, most, most, most - 1}, {most - 1, most, most, most}, all}
	for _, has := range edges {
		for _, v := range edges {
			w := world(api.Word{9}, api.Slot{Key: key, Value: has})
			if desk.Deposit(w, a) != has {
				t.Errorf("the deposit %v is %v", has, desk.Deposit(w, a))
			}
			desk.Credit(w, a, v)
			sum := new(big.Int).Add(number(has), number(v))
			same(t, w, api.Word{9}, api.Slot{Key: key, Value: asWord(sum.Mod(sum, power(256)))})

			w = world(api.Word{9}, api.Slot{Key: key, Value: has})
			rest, can := new(big.Int).Sub(number(has), number(v)), number(has).Cmp(number(v)) >= 0
			if !can {
				rest = number(has)
			}
			if desk.Debit(w, a, v) != can {
				t.Errorf("Debit of %v by %v is not %v", has, v, can)
			}
			same(t, w, api.Word{9}, api.Slot{Key: key, Value: asWord(rest)})
		}
	}
}

func TestStakeOf(t *testing.T) {
	for _, a := range addresses() {
		w := world(api.Word{}, api.Slot{Key: keyOf(a, stake, 0), Value: all}, api.Slot{Key: keyOf(a, times, 0), Value: api.Word{3, 5, 6, 7}})
		if got, want := desk.StakeOf(w, a), (api.Stake{Amount: all, Delay: 5, Unlock: 3}); got != want {
			t.Errorf("the stake of %x is %v, want %v", a, got, want)
		}
		for _, b := range addresses() {
			if a != b && desk.StakeOf(w, b) != (api.Stake{}) || desk.Deposit(w, b) != (api.Word{}) || desk.Nonce(w, b, api.Word{}) != (api.Word{}) {
				t.Errorf("%x has something by the stake of %x", b, a)
			}
		}
	}
}

func TestNonce(t *testing.T) {
	for _, a := range addresses() {
		for _, k := range []uint64{0, 1, 7, 1 << 63, most} {
			for _, n := range []uint64{0, 1, most - 1, most} {
				w := world(api.Word{}, api.Slot{Key: keyOf(a, sequence, k), Value: api.Word{n, 4, 5, 6}})
				if got := desk.Nonce(w, a, api.Word{k}); got != (api.Word{n, k}) {
					t.Errorf("key %d at %d: the nonce is %v", k, n, got)
				}
			}
		}
		for _, great := range []api.Word{{0, 1}, {7, 1}, {7, 0, 1}, {7, 0, 0, 1}, all} {
			w := world(api.Word{}, api.Slot{Key: keyOf(a, sequence, great[0]), Value: api.Word{9}}, api.Slot{Key: great, Value: api.Word{9}})
			if got := desk.Nonce(w, a, great); got != (api.Word{}) {
				t.Errorf("key %v: the nonce is %v", great, got)
			}
		}
	}
}

func TestUse(t *testing.T) {
	a := api.Address{3}
	for _, k := range []uint64{0, 1, most} {
		key := keyOf(a, sequence, k)
		for _, n := range []uint64{0, 1, 1<<32 - 1, most - 1, most} {
			before := api.Slot{Key: key, Value: api.Word{n, 0, 8, 9}}
			for _, wrong := range []api.Word{{n + 1, k}, {n - 1, k}, {n, k + 1}, {n, k ^ 1}, {n, k, 1}, {n, k, 0, 1}, {n, k, most, most}} {
				w := world(api.Word{}, before)
				if desk.Use(w, a, wrong) && wrong != (api.Word{0, k + 1}) && wrong != (api.Word{0, k ^ 1}) {
					t.Errorf("key %d at %d: %v is the next one", k, n, wrong)
				}
			}
			w := world(api.Word{}, before)
			is := desk.Use(w, a, api.Word{n, k})
			if is != (n < most) {
				t.Errorf("key %d at %d: the nonce is used: %v", k, n, is)
			}
			if is {
				before.Value[0]++
			}
			same(t, w, api.Word{}, before)
		}
	}
}

// TestUseFails: where a nonce is refused, nothing changes.
func TestUseFails(t *testing.T) {
	a := api.Address{3}
	for _, wrong := range []api.Word{{1}, {1, 5}, {0, 0, 1}, {0, 5, 1}, {0, 0, 0, 1}, all, {most, most}} {
		w := world(api.Word{})
		if desk.Use(w, a, wrong) {
			t.Errorf("%v is the next nonce", wrong)
		}
		same(t, w, api.Word{})
	}
}

func TestUseInTurn(t *testing.T) {
	a, b := api.Address{3}, api.Address{4}
	w := world(api.Word{})
	for i := range uint64(50) {
		for _, k := range []uint64{0, 9} {
			nonce := api.Word{i, k}
			switch {
			case desk.Nonce(w, a, api.Word{k}) != nonce:
				t.Errorf("the nonce is not %v", nonce)
			case !desk.Use(w, a, nonce) || desk.Use(w, a, nonce):
				t.Errorf("%v is not used once", nonce)
			}
		}
	}
	if desk.Nonce(w, b, api.Word{}) != (api.Word{}) || desk.Nonce(w, a, api.Word{1}) != (api.Word{0, 1}) {
		t.Error("others' nonces were used")
	}
}

// TestDrawn: deposits and nonces of drawn amounts, as exact numbers.
func TestDrawn(t *testing.T) {
	d := sample.Dice(12)
	a := api.Address{3}
	w := world(api.Word{})
	has := new(big.Int)
	for range 3000 {
		v := d.Word()
		if d.Below(2) == 0 {
			desk.Credit(w, a, v)
			has.Add(has, number(v)).Mod(has, power(256))
		} else if can := has.Cmp(number(v)) >= 0; desk.Debit(w, a, v) != can {
			t.Fatalf("Debit of %v by %v is not %v", has, v, can)
		} else if can {
			has.Sub(has, number(v))
		}
		if desk.Deposit(w, a) != asWord(has) {
			t.Fatalf("the deposit is %v, want %v", desk.Deposit(w, a), has)
		}
	}
}
