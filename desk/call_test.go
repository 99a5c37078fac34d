package desk_test

import (
	"bytes"
	"math/big"
	"slices"
	"strconv"
	"testing"

	"quaestor/abi"
	"quaestor/api"
	"quaestor/desk"
	"quaestor/sample"
	"quaestor/word"
)

var caller, other = api.Address{1}, api.Address{2}

// wideOther is the other address as an argument.
var wideOther = word.Wide(other)

// holds is a model in which the caller has a deposit and a stake, which the entry point covers and a bit more.
func holds(deposit, stake api.Word, delay, unlock uint64) model {
	m := model{}
	x := m.of(caller)
	x.deposit, x.stake = number(deposit), number(stake)
	x.delay, x.unlock = new(big.Int).SetUint64(delay), new(big.Int).SetUint64(unlock)
	sum := new(big.Int).Add(x.deposit, x.stake)
	m.of(desk.Self()).balance = sum.Add(sum, big.NewInt(1000))
	return m
}

// check is a call of a World as in a model; the answer says whether it is accepted.
func check(t *testing.T, m model, now uint64, value api.Word, in []byte, static bool) bool {
	t.Helper()
	w, after := m.world(), m.copied()
	want, can := after.call(now, caller, number(value), in, static)
	got, is := desk.Call(w, now, caller, value, in, static)
	if is != can || !bytes.Equal(got, want) || !is && got != nil {
		t.Errorf("Call(%d, %v, %x, %v) = %x, %v, want %x, %v", now, value, in, static, got, is, want, can)
	}
	if can && !equalWorlds(w, after.world()) {
		t.Errorf("Call(%d, %v, %x, %v): the World is %v, want %v", now, value, in, static, w.Entries(), after.world().Entries())
	}
	return is
}

// accepted are calls that are accepted with no value.
func accepted() map[string][]byte {
	return map[string][]byte{
		"":               nil,
		"depositTo":      input("depositTo", wideOther),
		"balanceOf":      input("balanceOf", wideOther),
		"getNonce":       input("getNonce", wideOther, api.Word{7}),
		"incrementNonce": input("incrementNonce", api.Word{7}),
		"addStake":       input("addStake", api.Word{20}),
		"unlockStake":    input("unlockStake"),
		"withdrawStake":  input("withdrawStake", wideOther),
		"withdrawTo":     input("withdrawTo", wideOther, api.Word{5}),
	}
}

// ready is a model in which a call is accepted.
func ready(name string) model {
	if name == "withdrawStake" {
		return holds(api.Word{50}, api.Word{60}, 10, 70)
	}
	return holds(api.Word{50}, api.Word{60}, 10, 0)
}

func TestSelectors(t *testing.T) {
	for _, name := range []string{
		"depositTo(address)", "balanceOf(address)", "getNonce(address,uint192)", "incrementNonce(uint192)",
		"addStake(uint32)", "unlockStake()", "withdrawStake(address)", "withdrawTo(address,uint256)",
	} {
		bare := string([]byte(name)[:bytes.IndexByte([]byte(name), '(')])
		if !bytes.Equal(selector(bare), abi.Selector(name)) {
			t.Errorf("%s has the selector %x", name, abi.Selector(name))
		}
	}
}

// TestCallKinds: who may be called with a value, and who by a static call.
func TestCallKinds(t *testing.T) {
	for name, in := range accepted() {
		takes, asks := slices.Contains([]string{"", "depositTo", "addStake"}, name), slices.Contains([]string{"balanceOf", "getNonce"}, name)
		for _, value := range []api.Word{{}, {1}, {0, 1}, {0, 0, 1}, {0, 0, 0, 1}, {0, 0, 0, 1 << 63}} {
			for _, static := range []bool{false, true} {
				want := (value == api.Word{} || takes) && (!static || asks)
				if is := check(t, ready(name), 70, value, in, static); is != want {
					t.Errorf("%q, value %v, static %v: %v", name, value, static, is)
				}
			}
		}
	}
}

// TestCallLengths: all beginnings of a call, and bytes behind it, which are ignored.
func TestCallLengths(t *testing.T) {
	for name, in := range accepted() {
		for n := range in {
			if is := check(t, ready(name), 70, api.Word{}, in[:n], false); is != (n == 0) {
				t.Errorf("%s: its first %d bytes: %v", name, n, is)
			}
		}
		for n := range 70 {
			if name != "" && !check(t, ready(name), 70, api.Word{}, append(slices.Clone(in), sample.Noise(n, 3)...), false) {
				t.Errorf("%s: with %d bytes behind it", name, n)
			}
		}
	}
}

// TestCallNames: what is nearly a selector is none.
func TestCallNames(t *testing.T) {
	for name, in := range accepted() {
		for i := range 32 * min(1, len(in)) {
			wrong := slices.Clone(in)
			wrong[i/8] ^= 1 << (i % 8)
			if check(t, ready(name), 70, api.Word{}, wrong, false) {
				t.Errorf("%s: with another bit %d", name, i)
			}
		}
	}
	for _, wrong := range []string{"depositTo()", "withdrawTo(address,uint192)", "getNonce(address)", "addStake(uint256)", "receive()", "unknown", "", "deposits(address)", "getDepositInfo(address)"} {
		if check(t, ready(""), 70, api.Word{}, append(abi.Selector(wrong), make([]byte, 64)...), false) {
			t.Errorf("%q is accepted", wrong)
		}
	}
}

// TestCallAddresses: an argument that is an address is below 2^160.
func TestCallAddresses(t *testing.T) {
	for _, name := range []string{"depositTo", "balanceOf", "getNonce", "withdrawStake", "withdrawTo"} {
		in := accepted()[name]
		for bit := range 256 {
			a := slices.Clone(in)
			a[4+31-bit/8] ^= 1 << (bit % 8)
			if is := check(t, ready(name), 70, api.Word{}, a, false); is != (bit < 160) {
				t.Errorf("%s: with another bit %d of the address: %v", name, bit, is)
			}
		}
		for _, a := range addresses() {
			copy(in[4:], word.Bytes(word.Wide(a)))
			if !check(t, ready(name), 70, api.Word{}, in, false) {
				t.Errorf("%s: of %x", name, a)
			}
		}
	}
}

// TestCallKeys: a key is below 2^64.
func TestCallKeys(t *testing.T) {
	for _, key := range []api.Word{{}, {1}, {most}, {0, 1}, {most, 1}, {1, 0, 1}, {1, 0, 0, 1}, {most, most, most}, all} {
		small := key == api.Word{key[0]}
		for _, in := range [][]byte{input("getNonce", word.Wide(caller), key), input("getNonce", wideOther, key), input("incrementNonce", key)} {
			for _, used := range []uint64{0, 1, most - 1} {
				m := holds(api.Word{}, api.Word{}, 0, 0)
				m.of(caller).nonces[key[0]] = used
				if is := check(t, m, 1, api.Word{}, in, false); is != small {
					t.Errorf("%x: %v", in, is)
				}
			}
		}
		m := holds(api.Word{}, api.Word{}, 0, 0)
		m.of(caller).nonces[key[0]] = most
		if check(t, m, 1, api.Word{}, input("incrementNonce", key), false) || check(t, m, 1, api.Word{}, input("getNonce", word.Wide(caller), key), false) != small {
			t.Errorf("key %v: at its last nonce", key)
		}
	}
}

func TestDepositing(t *testing.T) {
	for _, has := range []api.Word{{}, {1}, {most, most, most}} {
		for _, value := range []api.Word{{}, {1}, {most}, {0, 0, 0, 1}} {
			m := holds(has, api.Word{1}, 1, 0)
			for _, in := range [][]byte{nil, {}, input("depositTo", word.Wide(caller)), input("depositTo", wideOther), input("depositTo", word.Wide(desk.Self()))} {
				if !check(t, m, 0, value, in, false) {
					t.Errorf("value %v, input %x: rejected", value, in)
				}
			}
		}
	}
	m := holds(all, api.Word{}, 0, 0) // as no entry point can cover; the chapter says modulo 2^256
	m.of(desk.Self()).balance = number(all)
	check(t, m, 0, api.Word{5}, nil, false)
	check(t, m, 0, api.Word{5}, input("depositTo", word.Wide(caller)), false)
}

func TestStaking(t *testing.T) {
	edges := []api.Word{{}, {1}, {9}, {10}, {11}, {1<<32 - 1}, {1 << 32}, {1<<32 + 11}, {most}, {11, 1}, {11, 0, 1}, {11, 0, 0, 1}, all}
	for _, delay := range edges {
		for _, before := range []uint64{0, 1, 10, 1<<32 - 1} {
			for _, unlock := range []uint64{0, 3} {
				for _, value := range []api.Word{{}, {1}, {0, 0, 1}} {
					for _, has := range []api.Word{{}, {1}, {most, most}} {
						want := delay[0] > 0 && delay[0] < 1<<32 && delay == (api.Word{delay[0]}) && delay[0] >= before && (value != api.Word{} || has != api.Word{})
						if is := check(t, holds(api.Word{2}, has, before, unlock), 5, value, input("addStake", delay), false); is != want {
							t.Errorf("stake %v, delay %d, unlock %d, value %v, new delay %v: %v", has, before, unlock, value, delay, is)
						}
					}
				}
			}
		}
	}
}

// TestStakingTooMuch: a stake is below 2^256.
func TestStakingTooMuch(t *testing.T) {
	for _, x := range []struct {
		has, value api.Word
		want       bool
	}{
		{all, api.Word{}, true},
		{all, api.Word{1}, false},
		{all, all, false},
		{api.Word{most - 1, most, most, most}, api.Word{1}, true},
		{api.Word{most - 1, most, most, most}, api.Word{2}, false},
		{api.Word{0, 0, 0, 1 << 63}, api.Word{0, 0, 0, 1 << 63}, false},
	} {
		m := holds(api.Word{}, x.has, 1, 0)
		m.of(desk.Self()).balance = number(all)
		if check(t, m, 1, x.value, input("addStake", api.Word{1}), false) != x.want {
			t.Errorf("stake %v, and %v more: not %v", x.has, x.value, x.want)
		}
	}
}

func TestUnlocking(t *testing.T) {
	for _, delay := range []uint64{0, 1, 10, 1<<32 - 1, most} {
		for _, unlock := range []uint64{0, 1, most} {
			for _, now := range []uint64{0, 1, 5, most - 10, most - 1<<32 + 1, most - 1<<32 + 2, most - 9, most - 1, most} {
				want := delay > 0 && unlock == 0 && now <= most-delay
				if is := check(t, holds(api.Word{2}, api.Word{3}, delay, unlock), now, api.Word{}, input("unlockStake"), false); is != want {
					t.Errorf("delay %d, unlock %d, now %d: %v", delay, unlock, now, is)
				}
			}
		}
	}
}

func TestWithdrawingStakes(t *testing.T) {
	for _, has := range []api.Word{{}, {1}, {0, 0, 0, 1}} {
		for _, unlock := range []uint64{0, 1, 5, most} {
			for _, now := range []uint64{0, 1, 4, 5, 6, most - 1, most} {
				want := has != api.Word{} && unlock != 0 && unlock <= now
				for _, a := range []api.Address{caller, other, desk.Self()} {
					m := holds(api.Word{2}, has, 10, unlock)
					m.of(other).balance, m.of(other).stake = big.NewInt(8), big.NewInt(9)
					if is := check(t, m, now, api.Word{}, input("withdrawStake", word.Wide(a)), false); is != want {
						t.Errorf("stake %v, unlock %d, now %d, to %x: %v", has, unlock, now, a, is)
					}
				}
			}
		}
	}
}

func TestWithdrawing(t *testing.T) {
	for _, has := range []api.Word{{}, {5}, {0, 0, 0, 1}} {
		for _, amount := range []api.Word{{}, {1}, {4}, {5}, {6}, {0, 1}, {0, 0, 0, 1}, {1, 0, 0, 1}, all} {
			for _, a := range []api.Address{caller, other, desk.Self()} {
				m := holds(has, api.Word{3}, 1, 0)
				m.of(other).balance, m.of(other).deposit = big.NewInt(8), number(all)
				if is := check(t, m, 0, api.Word{}, input("withdrawTo", word.Wide(a), amount), false); is != (word.Cmp(amount, has) <= 0) {
					t.Errorf("deposit %v, amount %v, to %x: %v", has, amount, a, is)
				}
			}
		}
	}
}

// TestPaysNothing: what the entry point has not it does not pay.
func TestPaysNothing(t *testing.T) {
	for _, balance := range []int64{0, 4, 5} {
		m := holds(api.Word{5}, api.Word{5}, 1, 1)
		m.of(desk.Self()).balance = big.NewInt(balance)
		for _, in := range [][]byte{input("withdrawStake", wideOther), input("withdrawTo", wideOther, api.Word{5})} {
			if check(t, m, 1, api.Word{}, in, false) != (balance == 5) {
				t.Errorf("%x is paid out of %d", in, balance)
			}
		}
	}
}

// TestTimesAnew: times are set as a whole, whatever else stood in their slot.
func TestTimesAnew(t *testing.T) {
	key := keyOf(caller, times, 0)
	w := world(api.Word{9}, api.Slot{Key: key, Value: api.Word{0, 10, 5, 6}}, api.Slot{Key: keyOf(caller, stake, 0), Value: api.Word{9}})
	for _, x := range []struct {
		in   []byte
		want api.Word
	}{
		{input("unlockStake"), api.Word{13, 10}},
		{input("addStake", api.Word{11}), api.Word{0, 11}},
		{input("unlockStake"), api.Word{14, 11}},
	} {
		if _, is := desk.Call(w, 3, caller, api.Word{}, x.in, false); !is || w.Slot(desk.Self(), key) != x.want {
			t.Errorf("%x: the times are %v, want %v", x.in, w.Slot(desk.Self(), key), x.want)
		}
	}
}

// TestExamples: those of the chapter.
func TestExamples(t *testing.T) {
	w := world(api.Word{5})
	if out, is := desk.Call(w, 0, caller, api.Word{5}, nil, false); !is || len(out) > 0 || desk.Deposit(w, caller) != (api.Word{5}) {
		t.Error("the deposit is not 5")
	}
	if out, is := desk.Call(w, 0, caller, api.Word{}, input("withdrawTo", wideOther, api.Word{3}), false); !is || len(out) > 0 {
		t.Error("nothing is withdrawn")
	}
	if w.Balance(other) != (api.Word{3}) || desk.Deposit(w, caller) != (api.Word{2}) || w.Balance(desk.Self()) != (api.Word{2}) {
		t.Error("not 3 are withdrawn")
	}
	if !desk.Use(w, caller, api.Word{}) || desk.Use(w, caller, api.Word{}) || desk.Nonce(w, caller, api.Word{}) != (api.Word{1}) {
		t.Error("the nonce 0 is not used once")
	}
}

// TestCallTakesOnly: the input is neither changed, nor kept, nor is it read behind its length; an answer is new.
func TestCallTakesOnly(t *testing.T) {
	for name, in := range accepted() {
		for n := range len(in) + 1 {
			long := slices.Clone(in)
			if check(t, ready(name), 70, api.Word{}, long[:n], false) != (n == 0 || n == len(in)) {
				t.Errorf("%s: what stands behind %d bytes counts", name, n)
			}
			if !bytes.Equal(long, in) {
				t.Errorf("%s: the input was changed", name)
			}
		}
	}
	for _, name := range []string{"balanceOf", "getNonce"} {
		m := holds(api.Word{50}, api.Word{}, 0, 0)
		m.of(caller).nonces[7] = 8
		w, in := m.world(), input(name, word.Wide(caller), api.Word{7})
		first, _ := desk.Call(w, 0, other, api.Word{}, in, false)
		kept := slices.Clone(first)
		clear(first)
		second, _ := desk.Call(w, 0, other, api.Word{}, in, false)
		clear(in)
		if !bytes.Equal(second, kept) || len(kept) != 32 || !equalWorlds(w, m.world()) {
			t.Errorf("%s: the answer is not new: %x", name, second)
		}
	}
}

// TestCallAny: no bytes let it panic.
func TestCallAny(t *testing.T) {
	d := sample.Dice(5)
	for i := range 2000 {
		in := sample.Noise(d.Below(80), d.Number())
		if i%2 == 0 && len(in) >= 4 {
			copy(in, accepted()["withdrawTo"][:4])
		}
		m := holds(d.Word(), api.Word{1}, d.Number(), d.Number())
		if m.of(desk.Self()).balance.Cmp(number(all)) > 0 {
			continue
		}
		if check(t, m, d.Number(), d.Word(), in, i%3 == 0) && t.Failed() {
			t.Fatal(strconv.Itoa(i))
		}
	}
}
