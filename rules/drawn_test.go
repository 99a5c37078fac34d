package rules_test

import (
	"bytes"
	"slices"
	"strings"
	"testing"

	"quaestor/api"
	"quaestor/rules"
	"quaestor/sample"
	"quaestor/store"
	"quaestor/trace"
	"quaestor/word"
)

// model is the chapter's list of rules in its words, each with a condition of its own.
type model struct {
	w      *store.World
	x      api.UserOp
	l      [4][]api.Event
	staked [4]bool
}

func (m model) check() []api.Broken {
	var found []api.Broken
	for _, role := range []int{1, 2, 3} {
		for i := range m.l[role] {
			for rule := 1; rule <= 8; rule++ {
				if m.violates(rule, role, i) {
					found = append(found, api.Broken{Rule: uint8(rule), Role: uint8(role), At: i})
				}
			}
		}
	}
	return found
}

func (m model) violates(rule, role, i int) bool {
	e := m.l[role][i]
	op, arg := string([]byte{e.Op}), word.Bytes(e.Arg)
	a := api.Address(arg[12:])
	if e.Fault != 0 {
		return rule == 3 && slices.Contains(trace.Starved(m.l[role]), i)
	}
	switch rule {
	case 1:
		return strings.Contains("\x32\x3a\x40\x41\x42\x43\x44\x45\x48\xff", op) || strings.Contains("\x31\x47", op) && !m.staked[role]
	case 2:
		return slices.Contains(trace.Loose(m.l[role]), i)
	case 4:
		return op == "\xf0" || op == "\xf5" && !(role == 2 && m.isFirst(i) && a == m.x.Sender)
	case 5:
		return strings.Contains(reaching, op) && len(m.w.Code(a)) == 0 && a != self && !(bytes.Equal(a[:19], make([]byte, 19)) && a[19] > 0 && a[19] < 10)
	case 6:
		return strings.Contains("\xf1\xf2", op) && e.Value != api.Word{} && a != self
	case 7:
		return a == self && (strings.Contains("\xf2\xf4", op) || strings.Contains("\xf1\xfa", op) && string(e.Data) != "" && string(e.Data) != string(deposits))
	case 8:
		return strings.Contains("\x54\x55", op) && !m.can(role, e)
	}
	return false
}

// isFirst says whether no creation with a salt is ahead of one of the factory's.
func (m model) isFirst(i int) bool {
	for _, e := range m.l[2][:i] {
		if e.Op == 0xf5 && e.Fault == 0 {
			return false
		}
	}
	return true
}

// can says whether one of what rule 8 asks for holds.
func (m model) can(role int, e api.Event) bool {
	who := [4]api.Address{1: m.x.Sender, 2: m.x.Factory, 3: m.x.Paymaster}[role]
	is := [4]bool{1: true, 2: m.x.HasFactory, 3: m.x.HasPaymaster}[role]
	if e.Self == m.x.Sender {
		return true
	}
	if trace.Belongs(m.l[role], m.x.Sender, e.Arg) && !(m.x.HasFactory && !m.staked[2]) {
		return true
	}
	return m.staked[role] && (is && e.Self == who || is && trace.Belongs(m.l[role], who, e.Arg) || e.Op == 0x54)
}

// matter are the operations that rules speak of.
const matter = "\x20\x20\x31\x32\x3a\x3b\x3c\x3f\x40\x42\x45\x46\x47\x48\x54\x54\x54\x55\x55\x55\x5a\x5a\xf0\xf1\xf1\xf1\xf2\xf4\xf5\xf5\xfa\xff"

// drawn are events without a rule, among which the operations that matter are many, and near to what rules allow.
func drawn(d *sample.Dice, n int) []api.Event {
	who := append(crowd(), at(10), at(0x78), word.Addr(d.Word()))
	hashes := []api.Word{{500}, {0, 1}, {most - 3, most, most, most}}
	one := func() api.Address { return who[d.Below(len(who))] }
	var l []api.Event
	for range n {
		e := api.Event{Op: matter[d.Below(len(matter))], Depth: d.Below(2), Self: one(), Arg: word.Wide(one())}
		if d.Below(9) == 0 {
			e.Arg[3] = 1 << d.Below(64)
		}
		if d.Below(3) == 0 {
			e.Value = hashes[d.Below(3)]
		}
		switch d.Below(4) {
		case 0:
			e.Data = deposits
		case 1:
			e.Data = sample.Noise(d.Below(5), d.Number())
		}
		if e.Op == 0x20 {
			e.Value, e.Data = hashes[d.Below(3)], append(word.Bytes(word.Wide(one())), 1, 2)[:30+d.Below(5)]
		}
		if (e.Op == 0x54 || e.Op == 0x55) && d.Below(2) == 0 {
			e.Arg = plus(hashes[d.Below(3)], word.From(uint64([]int{0, 1, 127, 128, 129}[d.Below(5)])))
		}
		if d.Below(9) == 0 {
			e.Fault = faults()[d.Below(4)]
		}
		if d.Below(20) == 0 {
			e.Op = byte(d.Below(256))
		}
		l = append(l, e)
		if e.Op == 0x5a && d.Below(2) == 0 {
			l = append(l, api.Event{Op: 0xf1, Depth: e.Depth, Self: e.Self, Arg: word.Wide(shop)})
		}
	}
	return l
}

// drawnCase is a validation without a rule.
func drawnCase(d *sample.Dice) model {
	who := append(crowd(), me, me)
	some := func(n int) bool { return d.Below(n) > 0 }
	m := model{w: town(), x: full(), staked: [4]bool{some(2), some(2), some(2), some(2)}}
	m.x.HasFactory, m.x.HasPaymaster = some(3), some(3)
	if !some(4) {
		m.x.Sender, m.x.Factory, m.x.Paymaster = who[d.Below(len(who))], who[d.Below(len(who))], who[d.Below(len(who))]
	}
	if !some(3) {
		m.w.SetCode(nobody, []byte{1})
		m.w.SetCode(shop, nil)
	}
	for role := range m.l {
		m.l[role] = drawn(d, d.Below(1+d.Below(14)))
	}
	return m
}

// TestDrawn: drawn validations by the chapter's words.
func TestDrawn(t *testing.T) {
	d := sample.Dice(171)
	var seen [4][9]int
	none := 0
	for range 12000 {
		m := drawnCase(&d)
		want := m.check()
		got := rules.Check(m.w, m.x, m.l, m.staked)
		if !slices.Equal(got, want) {
			t.Fatalf("%v, %v, staked %v: %v, want %v", m.x, m.l, m.staked, got, want)
		}
		for _, b := range got {
			seen[b.Role][b.Rule]++
		}
		if len(got) == 0 {
			none++
		}
	}
	for role := 1; role <= 3; role++ {
		for rule := 1; rule <= 8; rule++ {
			if seen[role][rule] < 100 {
				t.Errorf("rule %d of role %d was violated %d times only", rule, role, seen[role][rule])
			}
		}
	}
	if none < 30 {
		t.Errorf("%d violate nothing", none)
	}
}

// clone is the same, with memory of its own.
func clone(l []api.Event) []api.Event {
	var c []api.Event
	for _, e := range l {
		e.Data = slices.Clip(bytes.Clone(e.Data))
		c = append(c, e)
	}
	return slices.Clip(c)
}

// TestArguments: nothing is changed, what stands behind the end of a list counts for nothing, and answers share no memory.
func TestArguments(t *testing.T) {
	d := sample.Dice(172)
	for range 500 {
		m := drawnCase(&d)
		before, whole := m.w.Copy(), m.l
		mark := m.w.Mark()
		m.w.SetBalance(nobody, api.Word{99})
		after := m.w.Copy()
		for role := range m.l {
			whole[role] = clone(m.l[role])
			m.l[role] = m.l[role][:d.Below(len(m.l[role])+1)]
		}
		heads := m.l
		for role := range heads {
			heads[role] = clone(m.l[role])
		}
		got, again := rules.Check(m.w, m.x, m.l, m.staked), rules.Check(m.w, m.x, heads, m.staked)
		if !slices.Equal(got, again) {
			t.Fatalf("%v: what stands behind the end counts", m.l)
		}
		for role := range m.l {
			if !sample.SameEvents(m.l[role], heads[role]) || !sample.SameEvents(m.l[role][:len(whole[role])], whole[role]) {
				t.Fatalf("%v: an argument was changed", m.l)
			}
		}
		if !sample.SameWorlds(m.w, after, crowd()) {
			t.Fatalf("%v: the World was changed", m.l)
		}
		m.w.Back(mark)
		if !sample.SameWorlds(m.w, before, crowd()) {
			t.Fatalf("%v: a Mark was taken back", m.l)
		}
		clear(got[:cap(got)])
		if !slices.Equal(again, rules.Check(m.w, m.x, heads, m.staked)) {
			t.Fatalf("%v: answers share memory", m.l)
		}
	}
}

// TestMany: as many events as a validation can have are looked at without delay.
func TestMany(t *testing.T) {
	const n = 200000
	l := make([]api.Event, 0, n)
	var want []api.Broken
	l = append(l, hashed(me, api.Word{1000}))
	for i := 1; i < n; i++ {
		switch i % 4 {
		case 0:
			l = append(l, api.Event{Op: 0x5a, Self: me})
			want = append(want, api.Broken{Rule: 2, Role: 3, At: i})
		case 1:
			l = append(l, api.Event{Op: 0x54, Self: shop, Arg: api.Word{1000 + uint64(i%129)}})
		case 2:
			l = append(l, api.Event{Op: 1})
		case 3:
			l = append(l, api.Event{Op: 0xfd, Fault: api.ErrVMGas})
			want = append(want, api.Broken{Rule: 3, Role: 3, At: i})
		}
	}
	broken(t, "many", rules.Check(town(), plain(), by(3, l...), [4]bool{}), want...)
}
