package desk_test

import (
	"bytes"
	"encoding/hex"
	"math/big"
	"testing"

	"quaestor/api"
	"quaestor/desk"
	"quaestor/sample"
	"quaestor/store"
	"quaestor/word"
)

// account is what the entry point keeps of an address, as exact numbers.
type account struct {
	deposit, stake, delay, unlock, balance *big.Int
	nonces                                 map[uint64]uint64
}

// model is the entry point in the chapter's words.
type model map[api.Address]*account

func (m model) of(a api.Address) *account {
	if m[a] == nil {
		m[a] = &account{new(big.Int), new(big.Int), new(big.Int), new(big.Int), new(big.Int), map[uint64]uint64{}}
	}
	return m[a]
}

// names are the calls by their selectors.
func names() map[string]string {
	return map[string]string{
		"b760faf9": "depositTo", "70a08231": "balanceOf", "35567e1a": "getNonce", "0bd28e3b": "incrementNonce",
		"0396cb60": "addStake", "bb9fe6bf": "unlockStake", "c23a5cea": "withdrawStake", "205c2878": "withdrawTo",
	}
}

// selector is the one of a call.
func selector(name string) []byte {
	for s, n := range names() {
		if n == name {
			b, _ := hex.DecodeString(s)
			return b
		}
	}
	return nil
}

// input is a call of a name with words as arguments.
func input(name string, args ...api.Word) []byte {
	b := selector(name)
	for _, a := range args {
		b = append(b, word.Bytes(a)...)
	}
	return b
}

// arguments are n words, of which some (by their numbers) are addresses; false: the call is rejected.
func arguments(b []byte, n int, areAddresses ...int) ([]*big.Int, bool) {
	if len(b) < 32*n {
		return nil, false
	}
	var l []*big.Int
	for i := range n {
		l = append(l, new(big.Int).SetBytes(b[32*i:32*i+32]))
	}
	for _, i := range areAddresses {
		if l[i].Cmp(power(160)) >= 0 {
			return nil, false
		}
	}
	return l, true
}

func address(n *big.Int) (a api.Address) {
	n.FillBytes(a[:])
	return a
}

// keyNumber is a key as a number of 64 bits; false: it is greater.
func keyNumber(n *big.Int) (uint64, bool) { return n.Uint64(), n.Cmp(power(64)) < 0 }

// answer is a number in 32 bytes.
func answer(n *big.Int) ([]byte, bool) { return n.FillBytes(make([]byte, 32)), true }

// call is what a call answers; false: it is rejected.
func (m model) call(now uint64, caller api.Address, value *big.Int, in []byte, static bool) ([]byte, bool) {
	name, rest := "", []byte(nil)
	if len(in) > 0 {
		if len(in) < 4 || names()[hex.EncodeToString(in[:4])] == "" {
			return nil, false
		}
		name, rest = names()[hex.EncodeToString(in[:4])], in[4:]
	}
	if static && name != "balanceOf" && name != "getNonce" {
		return nil, false
	}
	if value.Sign() != 0 && name != "" && name != "depositTo" && name != "addStake" {
		return nil, false
	}
	switch name {
	case "balanceOf", "getNonce":
		return m.ask(name, rest)
	case "addStake", "unlockStake", "withdrawStake":
		return nil, m.stakes(name, now, caller, value, rest)
	}
	return nil, m.moves(name, caller, value, rest)
}

// ask is what a call answers that changes nothing.
func (m model) ask(name string, rest []byte) ([]byte, bool) {
	if name == "balanceOf" {
		if l, ok := arguments(rest, 1, 0); ok {
			return answer(m.of(address(l[0])).deposit)
		}
		return nil, false
	}
	if l, ok := arguments(rest, 2, 0); ok {
		if k, ok := keyNumber(l[1]); ok {
			n := new(big.Int).Mul(l[1], power(64))
			return answer(n.Add(n, new(big.Int).SetUint64(m.of(address(l[0])).nonces[k])))
		}
	}
	return nil, false
}

// stakes are the calls that change stakes.
func (m model) stakes(name string, now uint64, caller api.Address, value *big.Int, rest []byte) bool {
	me := m.of(caller)
	switch name {
	case "addStake":
		l, ok := arguments(rest, 1)
		return ok && me.addStake(l[0], value)
	case "unlockStake":
		sum := new(big.Int).Add(new(big.Int).SetUint64(now), me.delay)
		if me.delay.Sign() > 0 && me.unlock.Sign() == 0 && sum.Cmp(power(64)) < 0 {
			me.unlock = sum
			return true
		}
	case "withdrawStake":
		l, ok := arguments(rest, 1, 0)
		if ok && me.stake.Sign() > 0 && me.unlock.Sign() > 0 && me.unlock.Cmp(new(big.Int).SetUint64(now)) <= 0 {
			amount := me.stake
			me.stake, me.delay, me.unlock = new(big.Int), new(big.Int), new(big.Int)
			return m.pay(address(l[0]), amount)
		}
	}
	return false
}

// moves are the calls that change deposits and nonces.
func (m model) moves(name string, caller api.Address, value *big.Int, rest []byte) bool {
	me := m.of(caller)
	switch name {
	case "":
		m.credit(caller, value)
		return true
	case "depositTo":
		if l, ok := arguments(rest, 1, 0); ok {
			m.credit(address(l[0]), value)
			return true
		}
	case "incrementNonce":
		if l, ok := arguments(rest, 1); ok {
			if k, ok := keyNumber(l[0]); ok && me.nonces[k] < most {
				me.nonces[k]++
				return true
			}
		}
	case "withdrawTo":
		if l, ok := arguments(rest, 2, 0); ok && me.deposit.Cmp(l[1]) >= 0 {
			me.deposit = new(big.Int).Sub(me.deposit, l[1])
			return m.pay(address(l[0]), l[1])
		}
	}
	return false
}

func (m model) credit(a api.Address, v *big.Int) {
	sum := new(big.Int).Add(m.of(a).deposit, v)
	m.of(a).deposit = sum.Mod(sum, power(256))
}

func (x *account) addStake(delay, value *big.Int) bool {
	sum := new(big.Int).Add(x.stake, value)
	if delay.Sign() == 0 || delay.Cmp(power(32)) >= 0 || delay.Cmp(x.delay) < 0 || sum.Sign() == 0 || sum.Cmp(power(256)) >= 0 {
		return false
	}
	x.stake, x.delay, x.unlock = sum, delay, new(big.Int)
	return true
}

func (m model) pay(to api.Address, v *big.Int) bool {
	from := m.of(desk.Self())
	if from.balance.Cmp(v) < 0 {
		return false
	}
	from.balance = new(big.Int).Sub(from.balance, v)
	sum := new(big.Int).Add(m.of(to).balance, v)
	m.of(to).balance = sum.Mod(sum, power(256))
	return true
}

// copied is another one that is the same. No number is changed in its place.
func (m model) copied() model {
	c := model{}
	for a, x := range m {
		y := *x
		y.nonces = map[uint64]uint64{}
		for k, n := range x.nonces {
			y.nonces[k] = n
		}
		c[a] = &y
	}
	return c
}

// world is the World that the model is of.
func (m model) world() *store.World {
	var l []api.Entry
	var slots []api.Slot
	put := func(key api.Word, v *big.Int) { slots = append(slots, api.Slot{Key: key, Value: asWord(v)}) }
	for a, x := range m {
		put(keyOf(a, deposit, 0), x.deposit)
		put(keyOf(a, stake, 0), x.stake)
		put(keyOf(a, times, 0), new(big.Int).Add(new(big.Int).Mul(x.delay, power(64)), x.unlock))
		for k, n := range x.nonces {
			put(keyOf(a, sequence, k), new(big.Int).SetUint64(n))
		}
		if a != desk.Self() {
			l = append(l, api.Entry{Addr: a, Account: api.Account{Balance: asWord(x.balance)}})
		}
	}
	return store.New(append(l, api.Entry{Addr: desk.Self(), Account: api.Account{Balance: asWord(m.of(desk.Self()).balance), Slots: slots}}))
}

// covers says whether the entry point has what it keeps for others.
func (m model) covers() bool {
	sum := new(big.Int)
	for _, x := range m {
		sum.Add(sum, x.deposit).Add(sum, x.stake)
	}
	return m.of(desk.Self()).balance.Cmp(sum) >= 0
}

func equalWorlds(v, w *store.World) bool { return sample.SameEntries(v.Entries(), w.Entries()) }

// drawnInput is one that asks for something, or nearly.
func drawnInput(d *sample.Dice) []byte {
	list := []string{"depositTo", "balanceOf", "getNonce", "incrementNonce", "addStake", "unlockStake", "withdrawStake", "withdrawTo"}
	known := addresses()
	i := d.Below(len(list) + 2)
	if i >= len(list) {
		return sample.Noise(d.Below(3)*d.Below(40), d.Number())
	}
	who := word.Wide(known[d.Below(len(known))])
	if d.Below(20) == 0 {
		who[2] |= 1 << 32
	}
	amounts := []api.Word{{}, {1}, {uint64(d.Below(12))}, {uint64(d.Below(12))}, {1<<32 - 1}, {1 << 32}, {most}, {0, 1}, d.Word()}
	first, second := who, amounts[d.Below(len(amounts))]
	if name := list[i]; name == "incrementNonce" || name == "addStake" {
		first = second
	}
	in := input(list[i], first, second)
	switch d.Below(20) {
	case 0:
		return in[:d.Below(len(in)+1)]
	case 1:
		return append(in, sample.Noise(d.Below(40), d.Number())...)
	}
	return in
}

// drawnValue is what a call brings: most often nothing.
func drawnValue(d *sample.Dice) api.Word {
	switch d.Below(6) {
	case 0, 1:
		return api.Word{uint64(d.Below(12))}
	case 2:
		return word.Shr(word.From(8), d.Word())
	}
	return api.Word{}
}

// TestCallsDrawn: calls in turn, by the chapter's words, from a World that covers all; it always does.
func TestCallsDrawn(t *testing.T) {
	d := sample.Dice(120)
	known := addresses()
	accepted := map[string]int{}
	for range 60 {
		m := model{}
		w := m.world()
		now := uint64(d.Below(3))
		for range 400 {
			now += uint64(d.Below(4))
			caller, value, in, static := known[d.Below(len(known))], drawnValue(&d), drawnInput(&d), d.Below(12) == 0
			sum, over := word.Add(w.Balance(desk.Self()), value)
			if over {
				continue
			}
			before, mark := m.copied(), w.Mark()
			w.SetBalance(desk.Self(), sum)
			m.of(desk.Self()).balance = number(sum)
			want, can := m.call(now, caller, number(value), in, static)
			got, is := desk.Call(w, now, caller, value, in, static)
			if is != can || !bytes.Equal(got, want) || !is && got != nil {
				t.Fatalf("Call(%d, %x, %v, %x, %v) = %x, %v, want %x, %v", now, caller, value, in, static, got, is, want, can)
			}
			if !can {
				w.Back(mark)
				m = before
			} else if len(in) >= 4 {
				accepted[names()[hex.EncodeToString(in[:4])]]++
			}
			if !equalWorlds(w, m.world()) {
				t.Fatalf("Call(%d, %x, %v, %x, %v): the World is %v, want %v", now, caller, value, in, static, w.Entries(), m.world().Entries())
			}
			if !m.covers() {
				t.Fatalf("Call(%d, %x, %v, %x, %v): the entry point has not what it keeps", now, caller, value, in, static)
			}
		}
	}
	for _, name := range names() {
		if accepted[name] < 20 {
			t.Errorf("%s was accepted %d times only", name, accepted[name])
		}
	}
}
