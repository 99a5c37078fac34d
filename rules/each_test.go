package rules_test

import (
	"slices"
	"strings"
	"testing"

	"quaestor/abi"
	"quaestor/api"
	"quaestor/rules"
	"quaestor/store"
	"quaestor/word"
)

// isOne says whether an operation is one of a text of bytes.
func isOne(op int, some string) bool { return strings.IndexByte(some, byte(op)) >= 0 }

// TestForbidden: rule 1, for all operations, roles and stakes.
func TestForbidden(t *testing.T) {
	for op := range 256 {
		each(func(role uint8) {
			for _, staked := range bets() {
				want := isOne(op, "\x32\x3a\x40\x41\x42\x43\x44\x45\x48\xff") || isOne(op, "\x31\x47") && !staked[role]
				e := api.Event{Op: byte(op), Self: me, Arg: word.Wide(me)}
				if got := breaks(t, 1, full(), role, staked, e); got != want {
					t.Errorf("%x of role %d, staked %v: %v", op, role, staked, got)
				}
			}
		})
	}
}

// TestGas: rule 2, for what stands behind the question.
func TestGas(t *testing.T) {
	gas := api.Event{Op: 0x5a, Depth: 1, Self: me}
	each(func(role uint8) {
		for _, staked := range bets() {
			if !breaks(t, 2, full(), role, staked, gas) || !breaks(t, 2, full(), role, staked, api.Event{Op: 1}, gas) {
				t.Errorf("role %d, staked %v: no call behind, and no violation", role, staked)
			}
		}
		for op := range 256 {
			call := api.Event{Op: byte(op), Depth: 1, Self: me, Arg: word.Wide(shop)}
			found := rules.Check(town(), full(), by(role, gas, call), [4]bool{})
			want := !isOne(op, "\xf1\xf2\xf4\xfa")
			if got := slices.Contains(found, api.Broken{Rule: 2, Role: role}); got != want {
				t.Errorf("%x behind, role %d: %v", op, role, got)
			}
			if got := slices.Contains(found, api.Broken{Rule: 2, Role: role, At: 1}); got != (op == 0x5a) {
				t.Errorf("%x, role %d: %v", op, role, got)
			}
			call.Depth = 2
			if !slices.Contains(rules.Check(town(), full(), by(role, gas, call), [4]bool{}), api.Broken{Rule: 2, Role: role}) {
				t.Errorf("%x of another frame, role %d: no violation", op, role)
			}
		}
	})
}

// TestGasRoles: what another role does first is not behind what one does last.
func TestGasRoles(t *testing.T) {
	gas, call := api.Event{Op: 0x5a, Self: me}, api.Event{Op: 0xf1, Self: me, Arg: word.Wide(shop)}
	for first := range 4 {
		for second := range 4 {
			if first == second {
				continue
			}
			l := by(uint8(first), gas)
			l[second] = []api.Event{call}
			var want []api.Broken
			if first > 0 {
				want = []api.Broken{{Rule: 2, Role: uint8(first)}}
			}
			broken(t, "apart", rules.Check(town(), full(), l, [4]bool{}), want...)
		}
	}
}

// TestStarved: rule 3, for all operations and all faults, which violate no other rule.
func TestStarved(t *testing.T) {
	for op := range 256 {
		for _, fault := range faults() {
			e := api.Event{Op: byte(op), Self: shop, Arg: word.Wide(nobody), Value: api.Word{1}, Data: []byte{1, 2, 3, 4}, Fault: fault}
			into := e
			into.Arg = word.Wide(self)
			each(func(role uint8) {
				var want []api.Broken
				if fault == 130 {
					want = []api.Broken{{Rule: 3, Role: role}, {Rule: 3, Role: role, At: 2}}
				}
				l := by(role, e, api.Event{Op: 1}, into)
				broken(t, fault.Error(), rules.Check(town(), full(), l, [4]bool{}), want...)
				broken(t, fault.Error(), rules.Check(town(), full(), l, [4]bool{true, true, true, true}), want...)
			})
		}
	}
}

// TestCreates: rule 4, for all operations that make something, or nothing.
func TestCreates(t *testing.T) {
	for op := range 256 {
		for _, a := range []api.Address{me, factory, shop, nobody, self, {}} {
			each(func(role uint8) {
				for _, staked := range bets() {
					want := op == 0xf0 || op == 0xf5 && (role != 2 || a != me)
					e := api.Event{Op: byte(op), Self: factory, Arg: word.Wide(a)}
					if got := breaks(t, 4, full(), role, staked, e); got != want {
						t.Errorf("%x of %x, role %d, staked %v: %v", op, a, role, staked, got)
					}
				}
			})
		}
	}
}

// TestCreatesFirst: only the factory's first creation with a salt that is done may make the sender.
func TestCreatesFirst(t *testing.T) {
	mine := api.Event{Op: 0xf5, Self: factory, Arg: word.Wide(me)}
	other := api.Event{Op: 0xf5, Self: factory, Arg: word.Wide(shop)}
	plain := api.Event{Op: 0xf0, Self: factory, Arg: word.Wide(me)}
	failed := api.Event{Op: 0xf5, Self: factory, Fault: api.ErrVMStack}
	starved := api.Event{Op: 0xf5, Self: factory, Fault: api.ErrVMGas}
	nothing := api.Event{Op: 1}
	for _, y := range []struct {
		l    []api.Event
		want []int
	}{
		{[]api.Event{mine}, nil},
		{[]api.Event{mine, mine}, []int{1}},
		{[]api.Event{nothing, mine, nothing, mine, mine}, []int{3, 4}},
		{[]api.Event{other, mine}, []int{0, 1}},
		{[]api.Event{mine, other}, []int{1}},
		{[]api.Event{plain, mine}, []int{0}},
		{[]api.Event{mine, plain}, []int{1}},
		{[]api.Event{failed, mine}, nil},
		{[]api.Event{failed, failed, nothing, mine, mine}, []int{4}},
		{[]api.Event{starved, mine, starved}, nil},
		{[]api.Event{plain, failed, other, mine}, []int{0, 2, 3}},
	} {
		for _, role := range []uint8{1, 2, 3} {
			var got, want []int
			for _, b := range rules.Check(town(), full(), by(role, y.l...), [4]bool{}) {
				if b.Rule == 4 {
					got = append(got, b.At)
				}
			}
			for i, e := range y.l {
				if role == 2 && slices.Contains(y.want, i) || role != 2 && e.Fault == 0 && e.Op != 1 {
					want = append(want, i)
				}
			}
			if !slices.Equal(got, want) {
				t.Errorf("%v of role %d: %v, want %v", y.l, role, got, want)
			}
		}
	}
}

// TestCreatesOther: what the factory makes is the sender by all of its address, and by nothing else of the word.
func TestCreatesOther(t *testing.T) {
	for bit := range 256 {
		e := api.Event{Op: 0xf5, Self: factory, Arg: word.Wide(me)}
		e.Arg[bit/64] ^= 1 << (bit % 64)
		if got := breaks(t, 4, full(), 2, [4]bool{}, e); got != (bit < 160) {
			t.Errorf("bit %d: %v", bit, got)
		}
	}
}

// reaching are the operations of rule 5.
const reaching = "\x3b\x3c\x3f\xf1\xf2\xf4\xfa"

// TestNobody: rule 5, for all operations, and accounts with code and without.
func TestNobody(t *testing.T) {
	for _, y := range []struct {
		a    api.Address
		none bool
	}{
		{me, false}, {factory, false}, {payer, false}, {shop, false}, {self, false},
		{nobody, true}, {at(0x99), true}, {api.Address{}, true},
		{at(1), false}, {at(2), false}, {at(3), false}, {at(4), false}, {at(5), false}, {at(6), false}, {at(7), false}, {at(8), false}, {at(9), false},
		{at(10), true}, {at(255), true}, {at(1 << 8), true}, {at(1<<8 + 1), true}, {at(9 << 8), true}, {api.Address{0: 1}, true}, {api.Address{0: 1, 19: 1}, true}, {api.Address{11: 0x80, 19: 9}, true}, {word.Addr(all), true},
	} {
		for op := range 256 {
			want := y.none && isOne(op, reaching)
			e := api.Event{Op: byte(op), Self: me, Arg: word.Wide(y.a)}
			each(func(role uint8) {
				for _, staked := range [][4]bool{{}, {true, true, true, true}} {
					if got := breaks(t, 5, full(), role, staked, e); got != want {
						t.Errorf("%x of %x, role %d: %v", op, y.a, role, got)
					}
				}
			})
		}
	}
}

// TestNobodyBits: all bits of the address count, and no others of the word.
func TestNobodyBits(t *testing.T) {
	for _, a := range []api.Address{shop, self, at(8)} {
		for bit := range 256 {
			e := api.Event{Op: 0x3f, Self: me, Arg: word.Wide(a)}
			e.Arg[bit/64] ^= 1 << (bit % 64)
			want := bit < 160 && (a != at(8) || bit > 0)
			if got := breaks(t, 5, full(), 1, [4]bool{}, e); got != want {
				t.Errorf("%x, bit %d: %v", a, bit, got)
			}
		}
	}
}

// TestNobodyNow: the World as it is counts: code that was taken back, or that the transaction has made.
func TestNobodyNow(t *testing.T) {
	w := town()
	l := by(1, api.Event{Op: 0x3b, Self: me, Arg: word.Wide(nobody)})
	check := func(name string, want ...api.Broken) {
		t.Helper()
		broken(t, name, rules.Check(w, full(), l, [4]bool{}), want...)
	}
	none := api.Broken{Rule: 5, Role: 1}
	check("at first", none)
	mark := w.Mark()
	w.SetCode(nobody, []byte{0})
	check("with code")
	w.Back(mark)
	check("taken back", none)
	w.SetCode(nobody, []byte{0x60, 0})
	w.Kill(nobody)
	check("dying")
	w.End()
	check("dead", none)
}

// TestPays: rule 6, for all operations, whoever is paid, by values at the edges of their parts.
func TestPays(t *testing.T) {
	for op := range 256 {
		for _, value := range []api.Word{{}, {1}, {0, 1}, {0, 0, 1}, {0, 0, 0, 1 << 63}, all} {
			for _, a := range []api.Address{me, shop, nobody, self, {}, at(1)} {
				each(func(role uint8) {
					want := isOne(op, "\xf1\xf2") && value != api.Word{} && a != self
					e := api.Event{Op: byte(op), Self: me, Arg: word.Wide(a), Value: value}
					for _, staked := range [][4]bool{{}, {true, true, true, true}} {
						if got := breaks(t, 6, full(), role, staked, e); got != want {
							t.Errorf("%x of %x with %v, role %d: %v", op, a, value, role, got)
						}
					}
				})
			}
		}
	}
}

// TestEntry: rule 7, for all operations, whoever is called, with data of all kinds.
func TestEntry(t *testing.T) {
	data := [][]byte{nil, {}, deposits, deposits[:3], deposits[:1], append(slices.Clip(deposits), 0), {0}, {0, 0, 0, 0}, {1, 2, 3, 4}, abi.Selector("withdrawTo(address,uint256)"), abi.Selector("balanceOf(address)"), make([]byte, 40)}
	for op := range 256 {
		for i, d := range data {
			for _, a := range []api.Address{self, me, shop, {}} {
				each(func(role uint8) {
					want := a == self && (isOne(op, "\xf2\xf4") || isOne(op, "\xf1\xfa") && i > 2)
					e := api.Event{Op: byte(op), Self: me, Arg: word.Wide(a), Data: d}
					for _, staked := range [][4]bool{{}, {true, true, true, true}} {
						if got := breaks(t, 7, full(), role, staked, e); got != want {
							t.Errorf("%x of %x with %x, role %d: %v", op, a, d, role, got)
						}
					}
				})
			}
		}
	}
}

// TestEntryBits: all bits of the selector count, and of the address; the value does not.
func TestEntryBits(t *testing.T) {
	for bit := range 32 {
		d := slices.Clone(deposits)
		d[bit/8] ^= 1 << (bit % 8)
		if !breaks(t, 7, full(), 1, [4]bool{}, api.Event{Op: 0xf1, Self: me, Arg: word.Wide(self), Data: d}) {
			t.Errorf("%x: no violation", d)
		}
	}
	for bit := range 256 {
		e := api.Event{Op: 0xf4, Self: me, Arg: word.Wide(self)}
		e.Arg[bit/64] ^= 1 << (bit % 64)
		if got := breaks(t, 7, full(), 1, [4]bool{}, e); got != (bit >= 160) {
			t.Errorf("bit %d: %v", bit, got)
		}
	}
	for _, value := range []api.Word{{}, {1}, all} {
		e := api.Event{Op: 0xf1, Self: me, Arg: word.Wide(self), Value: value, Data: deposits}
		broken(t, "a deposit", rules.Check(town(), full(), by(1, e), [4]bool{}))
	}
}

// TestEmpty: no events violate nothing, whatever else there is.
func TestEmpty(t *testing.T) {
	for _, w := range []*store.World{town(), store.New(nil)} {
		for _, x := range []api.UserOp{{}, plain(), full()} {
			for _, staked := range bets() {
				broken(t, "no events", rules.Check(w, x, [4][]api.Event{}, staked))
				broken(t, "empty", rules.Check(w, x, [4][]api.Event{{}, {}, {}, {}}, staked))
				broken(t, "of no role", rules.Check(w, x, by(0, api.Event{Op: 0x42}, api.Event{Op: 0x54, Self: shop}, api.Event{Fault: api.ErrVMGas}), staked))
			}
		}
	}
}

// TestOrder: role by role, event by event, rule by rule.
func TestOrder(t *testing.T) {
	worst := api.Event{Op: 0xf2, Self: shop, Arg: word.Wide(nobody), Value: api.Word{1}}
	l := [4][]api.Event{
		1: {{Op: 0x42}, worst, {Op: 1}, {Op: 0x5a}},
		2: {{Op: 0x55, Self: shop, Arg: api.Word{7}}, {Op: 0xff}, {Op: 0xf0, Fault: api.ErrVMGas}},
		3: {worst, {Op: 0xf4, Arg: word.Wide(self)}, {Op: 0xf5}},
	}
	broken(t, "all", rules.Check(town(), full(), l, [4]bool{}),
		api.Broken{Rule: 1, Role: 1}, api.Broken{Rule: 5, Role: 1, At: 1}, api.Broken{Rule: 6, Role: 1, At: 1}, api.Broken{Rule: 2, Role: 1, At: 3},
		api.Broken{Rule: 8, Role: 2}, api.Broken{Rule: 1, Role: 2, At: 1}, api.Broken{Rule: 3, Role: 2, At: 2},
		api.Broken{Rule: 5, Role: 3}, api.Broken{Rule: 6, Role: 3}, api.Broken{Rule: 7, Role: 3, At: 1}, api.Broken{Rule: 4, Role: 3, At: 2},
	)
}
