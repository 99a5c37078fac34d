package rules_test

import (
	"testing"

	"quaestor/api"
	"quaestor/rules"
	"quaestor/word"
)

// TestSlots: rule 8, for all operations, in whose account, and by all stakes, with no hash.
func TestSlots(t *testing.T) {
	entity := [4]api.Address{{}, me, factory, payer}
	for op := range 256 {
		for _, a := range []api.Address{me, factory, payer, shop, self, {}} {
			each(func(role uint8) {
				for _, staked := range bets() {
					can := a == me || staked[role] && (a == entity[role] || op == 0x54)
					want := isOne(op, "\x54\x55") && !can
					e := api.Event{Op: byte(op), Self: a, Arg: api.Word{7}}
					if got := breaks(t, 8, full(), role, staked, e); got != want {
						t.Errorf("%x of %x, role %d, staked %v: %v", op, a, role, staked, got)
					}
				}
			})
		}
	}
}

// owned are slots that are associated with an address, and some that are none, where the address's hash is one.
func owned(a api.Address, hash api.Word) map[api.Word]bool {
	return map[api.Word]bool{
		word.Wide(a):                    true,
		hash:                            true,
		plus(hash, api.Word{1}):         true,
		plus(hash, api.Word{128}):       true,
		plus(hash, api.Word{129}):       false,
		plus(hash, all):                 false,
		plus(hash, api.Word{0, 1}):      false,
		plus(word.Wide(a), hash):        false,
		plus(word.Wide(a), all):         false,
		plus(word.Wide(a), api.Word{1}): false,
		{1000}:                          false,
	}
}

// TestSlotsSenders: slots elsewhere that are associated with the sender, with a factory and without, which may be staked.
func TestSlotsSenders(t *testing.T) {
	for _, hash := range []api.Word{{1 << 20}, {most - 5, 1, 2, 3}, {most - 5, most, most, most}} {
		for slot, mine := range owned(me, hash) {
			for _, op := range []byte{0x54, 0x55} {
				for _, has := range []bool{false, true} {
					each(func(role uint8) {
						for _, staked := range bets() {
							x := full()
							x.HasFactory = has
							can := mine && (!has || staked[2] || role == 1 && staked[1])
							want := !can && !(staked[role] && op == 0x54)
							if got := breaks(t, 8, x, role, staked, hashed(me, hash), api.Event{Op: op, Self: shop, Arg: slot}); got != want {
								t.Errorf("%x of slot %v by hash %v, role %d, factory %v, staked %v: %v", op, slot, hash, role, has, staked, got)
							}
						}
					})
				}
			}
		}
	}
}

// TestSlotsEntitys: slots elsewhere that are associated with one who plays the role, who may be staked.
func TestSlotsEntitys(t *testing.T) {
	entity := [4]api.Address{{}, me, factory, payer}
	for _, a := range []api.Address{factory, payer, shop} {
		for slot, its := range owned(a, api.Word{1 << 20, 5}) {
			for _, op := range []byte{0x54, 0x55} {
				each(func(role uint8) {
					for _, staked := range bets() {
						want := !(staked[role] && (op == 0x54 || its && a == entity[role]))
						if got := breaks(t, 8, full(), role, staked, hashed(a, api.Word{1 << 20, 5}), api.Event{Op: op, Self: shop, Arg: slot}); got != want {
							t.Errorf("%x of slot %v of %x, role %d, staked %v: %v", op, slot, a, role, staked, got)
						}
					}
				})
			}
		}
	}
}

// TestSlotsHash: which hashes count: by the same role, ahead or behind, of 32 bytes at least, done.
func TestSlotsHash(t *testing.T) {
	hash := api.Word{5, 6, 7, 8}
	use := api.Event{Op: 0x55, Self: shop, Arg: hash}
	bad := api.Broken{Rule: 8, Role: 1}
	check := func(name string, l [4][]api.Event, want ...api.Broken) {
		t.Helper()
		broken(t, name, rules.Check(town(), plain(), l, [4]bool{}), want...)
	}
	check("none", by(1, use), bad)
	check("ahead", by(1, hashed(me, hash), use))
	check("behind", by(1, use, hashed(me, hash)))
	check("of another", by(1, use, hashed(shop, hash)), bad)
	check("among others", by(1, hashed(shop, hash), hashed(me, api.Word{1}), api.Event{Op: 1}, use, hashed(me, hash), hashed(factory, api.Word{9})))
	for role := range 4 {
		l := by(1, use)
		l[role] = append(l[role], hashed(me, hash))
		if role == 1 {
			check("the same role", l)
		} else {
			check("another role", l, bad)
		}
	}
	short, failed, no := hashed(me, hash), hashed(me, hash), hashed(me, hash)
	short.Data = short.Data[:31]
	check("31 bytes", by(1, use, short), bad)
	short.Data = short.Data[:32]
	check("32 bytes", by(1, use, short))
	failed.Fault = api.ErrVMStack
	check("a Fault", by(1, use, failed), bad)
	no.Op = 0x21
	check("another operation", by(1, use, no), bad)
}

// TestSlotsExample: the chapter's.
func TestSlotsExample(t *testing.T) {
	at := func(e api.Event) []api.Broken { return rules.Check(town(), plain(), by(1, e), [4]bool{}) }
	broken(t, "the time", at(api.Event{Op: 0x42, Self: me}), api.Broken{Rule: 1, Role: 1})
	broken(t, "another's slot", at(api.Event{Op: 0x54, Self: shop, Arg: api.Word{7}}), api.Broken{Rule: 8, Role: 1})
	broken(t, "the sender's", at(api.Event{Op: 0x54, Self: me, Arg: api.Word{7}}))
}

// TestSlotsBits: all bits of addresses count.
func TestSlotsBits(t *testing.T) {
	for bit := range 160 {
		for i, a := range []api.Address{me, factory, payer} {
			near := a
			near[bit/8] ^= 1 << (bit % 8)
			var staked [4]bool
			staked[i+1] = true
			if !breaks(t, 8, full(), uint8(i+1), staked, api.Event{Op: 0x55, Self: near, Arg: api.Word{7}}) {
				t.Errorf("%x counts as %x", near, a)
			}
		}
	}
}

// TestSlotsNoEntity: where nobody plays a role, nothing belongs to who does, though that would be staked.
func TestSlotsNoEntity(t *testing.T) {
	for _, role := range []uint8{2, 3} {
		for _, slot := range []api.Word{{}, {7}} {
			use := api.Event{Op: 0x55, Arg: slot}
			if !breaks(t, 8, plain(), role, [4]bool{true, true, true, true}, use) {
				t.Errorf("role %d, slot %v: no violation", role, slot)
			}
			use.Op = 0x54
			if breaks(t, 8, plain(), role, [4]bool{true, true, true, true}, use) || !breaks(t, 8, plain(), role, [4]bool{}, use) {
				t.Errorf("role %d, slot %v: reading", role, slot)
			}
		}
	}
}
