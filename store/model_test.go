package store_test

import (
	"bytes"
	"maps"
	"math/big"
	"slices"
	"testing"

	"quaestor/api"
	"quaestor/sample"
	"quaestor/store"
	"quaestor/word"
)

// state is a World in the chapter's words: everything by itself, and nothing shared.
type state struct {
	nonces   map[api.Address]uint64
	balances map[api.Address]api.Word
	codes    map[api.Address]string
	slots    map[api.Place]api.Word
	touched  map[api.Place]bool
	refunds  int64
	logs     []api.Log
	dead     map[api.Address]bool
}

func newState() state {
	return state{
		nonces: map[api.Address]uint64{}, balances: map[api.Address]api.Word{}, codes: map[api.Address]string{}, slots: map[api.Place]api.Word{},
		touched: map[api.Place]bool{}, dead: map[api.Address]bool{},
	}
}

func (s state) copied() state {
	return state{
		maps.Clone(s.nonces), maps.Clone(s.balances), maps.Clone(s.codes), maps.Clone(s.slots),
		maps.Clone(s.touched), s.refunds, slices.Clone(s.logs), maps.Clone(s.dead),
	}
}

// snapshot is what there was at a Mark.
type snapshot struct {
	number int
	state  state
}

// model is a World by whole snapshots.
type model struct {
	state
	originals map[api.Place]api.Word
	marks     []snapshot
}

func (m *model) begin() {
	m.touched, m.dead, m.refunds, m.logs, m.marks = map[api.Place]bool{}, map[api.Address]bool{}, 0, nil, nil
	m.originals = maps.Clone(m.slots)
}

func (m *model) end() {
	for a := range m.dead {
		delete(m.nonces, a)
		delete(m.balances, a)
		delete(m.codes, a)
		maps.DeleteFunc(m.slots, func(p api.Place, _ api.Word) bool { return p.Addr == a })
	}
	m.begin()
}

func (m *model) back(number int) {
	for i, s := range m.marks {
		if s.number == number {
			m.state, m.marks = s.state, m.marks[:i]
			return
		}
	}
}

func (m *model) copied() *model {
	return &model{state: m.state.copied(), originals: maps.Clone(m.originals)}
}

func (m *model) touch(p api.Place) bool {
	before := m.touched[p]
	m.touched[p] = true
	return before
}

func (m *model) pay(from, to api.Address, v api.Word) bool {
	if number(m.balances[from]).Cmp(number(v)) < 0 {
		return false
	}
	m.balances[from], _ = word.Sub(m.balances[from], v)
	m.balances[to], _ = word.Add(m.balances[to], v)
	return true
}

func (m *model) there(a api.Address) bool {
	return m.nonces[a] != 0 || m.balances[a] != api.Word{} || m.codes[a] != ""
}

// entries are the accounts, with addresses and keys by the order of their bytes.
func (m *model) entries() []api.Entry {
	var l []api.Entry
	known := addresses()
	slices.SortFunc(known, func(a, b api.Address) int { return bytes.Compare(a[:], b[:]) })
	keys := words()
	slices.SortFunc(keys, func(v, w api.Word) int { return bytes.Compare(word.Bytes(v), word.Bytes(w)) })
	for _, a := range known {
		x := api.Account{Nonce: m.nonces[a], Balance: m.balances[a], Code: []byte(m.codes[a])}
		for _, key := range keys {
			if v := m.slots[api.Place{Addr: a, Key: key}]; v != (api.Word{}) {
				x.Slots = append(x.Slots, api.Slot{Key: key, Value: v})
			}
		}
		if m.there(a) || len(x.Slots) > 0 {
			l = append(l, api.Entry{Addr: a, Account: x})
		}
	}
	return l
}

// look is what a World that is the model answers.
func (m *model) look() seen {
	s := seen{entries: m.entries(), logs: m.logs, refunds: m.refunds}
	for _, a := range addresses() {
		s.touched = append(s.touched, m.touched[api.Place{Addr: a, Whole: true}])
		for _, key := range words() {
			p := api.Place{Addr: a, Key: key}
			s.touched = append(s.touched, m.touched[p])
			s.originals = append(s.originals, m.originals[p])
		}
	}
	c := m.copied()
	c.end()
	s.ended = c.entries()
	return s
}

// checkOne asks for all that a World answers one by one.
func (m *model) checkOne(t *testing.T, w *store.World) {
	t.Helper()
	total := new(big.Int)
	for _, a := range addresses() {
		if w.There(a) != m.there(a) || w.Nonce(a) != m.nonces[a] || w.Balance(a) != m.balances[a] || string(w.Code(a)) != m.codes[a] {
			t.Fatalf("account %x", a)
		}
		total.Add(total, number(m.balances[a]))
		for _, key := range words() {
			if w.Slot(a, key) != m.slots[api.Place{Addr: a, Key: key}] {
				t.Fatalf("slot %x of %x", key, a)
			}
		}
	}
	sum, great := w.Total()
	low := new(big.Int).Mod(total, new(big.Int).Lsh(big.NewInt(1), 256))
	if number(sum).Cmp(low) != 0 || great != (total.BitLen() > 256) {
		t.Fatalf("Total: %x, %v", sum, great)
	}
}

// number is what a word says.
func number(v api.Word) *big.Int { return new(big.Int).SetBytes(word.Bytes(v)) }

// play is a World and the model, to which the same is done.
type play struct {
	*testing.T
	sample.Dice
	w     *store.World
	m     *model
	marks []int // all that were ever answered
}

func (p *play) address() api.Address { return addresses()[p.Below(len(addresses()))] }

func (p *play) word() api.Word { return words()[p.Below(len(words()))] }

func (p *play) same(what string, got, want bool) {
	p.Helper()
	if got != want {
		p.Fatalf("%s: %v", what, got)
	}
}

// account does something to accounts.
func (p *play) account() {
	a := p.address()
	switch p.Below(5) {
	case 0:
		n := uint64(p.Below(3)) - 1
		p.w.SetNonce(a, n)
		p.m.nonces[a] = n
	case 1:
		v := p.word()
		p.w.SetBalance(a, v)
		p.m.balances[a] = v
	case 2:
		code := sample.Noise(p.Below(4), uint64(p.Below(3)))
		p.w.SetCode(a, code)
		p.m.codes[a] = string(code)
	case 3:
		key, v := p.word(), p.word()
		p.w.SetSlot(a, key, v)
		p.m.slots[api.Place{Addr: a, Key: key}] = v
	case 4:
		to, v := p.address(), p.word()
		p.same("Pay", p.w.Pay(a, to, v), p.m.pay(a, to, v))
	}
}

// effect does what a transaction does beside.
func (p *play) effect() {
	a := p.address()
	switch p.Below(5) {
	case 0:
		p.same("Touch", p.w.Touch(a), p.m.touch(api.Place{Addr: a, Whole: true}))
	case 1:
		key := p.word()
		p.same("TouchSlot", p.w.TouchSlot(a, key), p.m.touch(api.Place{Addr: a, Key: key}))
	case 2:
		n := int64(p.Below(9)-4) << (p.Below(2) * 60)
		p.w.Refund(n)
		p.m.refunds += n
	case 3:
		x := api.Log{Addr: a, Topics: words()[:p.Below(5)], Data: sample.Noise(p.Below(40), 1)}
		p.w.Log(x)
		p.m.logs = append(p.m.logs, x)
	case 4:
		p.w.Kill(a)
		p.m.dead[a] = true
	}
}

// turn marks, goes back (to any Mark that ever was), begins, ends, or goes on with a Copy.
func (p *play) turn() {
	n := p.Below(60)
	switch {
	case n < 30:
		number := p.w.Mark()
		p.m.marks = append(p.m.marks, snapshot{number, p.m.state.copied()})
		p.marks = append(p.marks, number)
	case n < 50 && len(p.marks) > 0:
		number := p.marks[max(0, len(p.marks)-1-p.Below(6))]
		if p.Below(6) == 0 {
			number = p.marks[p.Below(len(p.marks))]
		}
		p.w.Back(number)
		p.m.back(number)
	case n < 52:
		p.w.Begin()
		p.m.begin()
	case n < 54:
		p.w.End()
		p.m.end()
	case n < 56:
		p.w, p.m = p.w.Copy(), p.m.copied()
	case n < 57:
		p.w, p.m.marks = store.New(p.w.Entries()), nil
		p.m.begin()
		p.marks = nil // they are another World's
	}
}

func TestModel(t *testing.T) {
	for seed := range 30 {
		p := &play{T: t, Dice: sample.Dice(seed), w: store.New(nil), m: &model{state: newState()}}
		p.m.begin()
		for range 400 {
			switch p.Below(3) {
			case 0:
				p.account()
			case 1:
				p.effect()
			case 2:
				p.turn()
			}
			p.m.checkOne(t, p.w)
			if !look(p.w).same(p.m.look()) {
				t.Fatalf("seed %d: not the same", seed)
			}
		}
	}
}
