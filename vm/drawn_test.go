package vm_test

import (
	"math/big"
	"slices"
	"strings"
	"testing"

	"quaestor/abi"
	"quaestor/api"
	"quaestor/desk"
	"quaestor/sample"
	"quaestor/store"
	"quaestor/vm"
	"quaestor/word"
)

// actors are whom drawn code knows: who has code, who has a balance alone, who does not exist, and who is served by the machine.
func actors() []api.Address {
	return []api.Address{me, at(0x77), at(0x78), at(0x55), at(0x66), at(2), at(4), desk.Self(), caller, at(0xc0)}
}

// kindsOf are what the arguments of operations are for, a letter for each; of those that are left out they are words.
func kindsOf(name string) string {
	switch name {
	case "KECCAK256", "RETURN", "REVERT", "LOG0":
		return "mn"
	case "LOG1", "LOG2", "LOG3", "LOG4":
		return "mnwwww"[:2+name[3]-'0']
	case "CALLDATACOPY", "CODECOPY":
		return "mon"
	case "RETURNDATACOPY":
		return "mrr"
	case "EXTCODECOPY":
		return "amon"
	case "BALANCE", "EXTCODESIZE", "EXTCODEHASH", "SELFDESTRUCT":
		return "a"
	case "MLOAD":
		return "m"
	case "MSTORE", "MSTORE8":
		return "mw"
	case "SLOAD":
		return "k"
	case "SSTORE":
		return "kr"
	case "CREATE":
		return "vmn"
	case "CREATE2":
		return "vmnr"
	case "CALL", "CALLCODE":
		return "gavmnmn"
	case "DELEGATECALL", "STATICCALL":
		return "gamnmn"
	case "JUMP":
		return "j"
	case "JUMPI":
		return "jr"
	case "CALLDATALOAD":
		return "o"
	case "BLOCKHASH":
		return "b"
	}
	return ""
}

// pen writes drawn code.
type pen struct {
	*sample.Dice
	code []byte
}

// push pushes a number, as short as can be.
func (p *pen) push(a api.Word) { p.code = append(p.code, assemble(digits(a))...) }

// argument pushes one of a kind.
func (p *pen) argument(kind byte) {
	small := func(n int) { p.push(word.From(uint64(p.Below(n)))) }
	rare := p.Below(60) == 0
	switch kind {
	case 'm', 'n', 'o':
		if rare {
			p.push([]api.Word{{1 << 20}, {1 << 32}, {most}, {0, 1}, all, p.Word()}[p.Below(6)])
			return
		}
		small(map[byte]int{'m': 120, 'n': 70, 'o': 80}[kind])
	case 'a':
		a := word.Wide(actors()[p.Below(len(actors()))])
		if rare {
			a[2] |= 7 << 32
		}
		p.push(a)
	case 'v':
		if rare {
			small(100000)
			return
		}
		small(1 + p.Below(2)*4)
	case 'g':
		if p.Below(3) == 0 {
			p.code = append(p.code, 0x5a)
			return
		}
		p.push(word.From([]uint64{0, 20, 700, 5000, 12000, 60000, most}[p.Below(7)]))
	case 'k', 'r':
		small(4)
	case 'b':
		p.push(word.From(uint64(p.Below(400))))
	case 'j':
		small(len(p.code) + 60)
	default:
		if p.Below(2) == 0 {
			small(40)
			return
		}
		p.push(p.Word())
	}
}

// operation writes a drawn one behind its arguments.
func (p *pen) operation() {
	o := operations[p.Below(len(operations))]
	switch o.Name {
	case "STOP", "RETURN", "REVERT", "SELFDESTRUCT", "JUMP":
		if p.Below(4) > 0 {
			return
		}
	}
	if o.Op > 0x60 && o.Op < 0xa0 && p.Below(6) > 0 { // of these there are many
		return
	}
	p.with(o)
}

func (p *pen) with(o sample.Operation) {
	letters := kindsOf(o.Name)
	for i := o.Takes - 1; i >= 0; i-- {
		kind := byte('w')
		if i < len(letters) {
			kind = letters[i]
		}
		p.argument(kind)
	}
	p.code = append(p.code, o.Op)
	if o.Op > 0x5f && o.Op < 0x80 {
		p.code = append(p.code, sample.Noise(int(o.Op-0x5f), p.Number())...)
	}
}

// named writes one of some operations.
func (p *pen) named(names string) {
	l := strings.Fields(names)
	p.with(known[opcodes[l[p.Below(len(l))]]])
}

// visit writes a call of the entry point that may be accepted.
func (p *pen) visit() {
	l := []string{"depositTo(address)", "balanceOf(address)", "getNonce(address,uint192)", "incrementNonce(uint192)", "addStake(uint32)", "unlockStake()", "withdrawStake(address)", "withdrawTo(address,uint256)"}
	name := l[p.Below(len(l))]
	p.push(word.Shl(word.From(224), word.Read(abi.Selector(name))))
	p.code = append(p.code, assemble("0 MSTORE")...)
	if strings.Contains(name, "address") {
		p.argument('a')
	} else {
		p.argument('r')
	}
	p.code = append(p.code, assemble("4 MSTORE")...)
	p.argument('r')
	p.code = append(p.code, assemble("36 MSTORE 0 0 68 0")...)
	if strings.Contains(name, "deposit") || strings.Contains(name, "addStake") {
		p.argument('v')
	} else {
		p.code = append(p.code, assemble("0")...)
	}
	p.code = append(p.code, assemble(digits(word.Wide(desk.Self()))+" 7000 CALL")...)
}

// making writes a creation of a short init code.
func (p *pen) making() {
	l := []string{"1 0 RETURN", "0 0 REVERT", "7 0 REVERT", "#fe", "0xef 0 MSTORE8 1 0 RETURN", "0x60016002 0 MSTORE 4 28 RETURN", "0x55 SELFDESTRUCT", "5 1 SSTORE 0x3355 0 MSTORE 2 30 RETURN", "800 0 RETURN", "30000 0 RETURN", "0x55 BALANCE 0 SSTORE", "CALLER BALANCE 5 0 CREATE", "0x600060006000600060003333f1 0 MSTORE 13 19 RETURN"}
	init := assemble(l[p.Below(len(l))])
	p.push(word.Read(append(slices.Clone(init), make([]byte, 32-len(init))...)))
	p.code = append(p.code, assemble("0 MSTORE")...)
	again := p.Below(2)
	if again == 0 {
		p.argument('r')
	}
	p.code = append(p.code, assemble(number(uint64(len(init)))+" 0")...)
	p.argument('v')
	p.code = append(p.code, []byte{0xf5, 0xf0}[again])
}

// skip writes a jump ahead, over some bytes.
func (p *pen) skip() {
	n := p.Below(5)
	if p.Below(2) == 0 {
		p.argument('r')
		p.push(word.From(uint64(len(p.code)) + 3 + uint64(n)))
		p.code = append(p.code, 0x57)
	} else {
		p.push(word.From(uint64(len(p.code)) + 3 + uint64(n)))
		p.code = append(p.code, 0x56)
	}
	p.code = append(append(p.code, sample.Noise(n, p.Number())...), 0x5b)
}

// draw is code of some statements.
func (p *pen) draw(n int) []byte {
	p.code = nil
	for range n {
		switch p.Below(30) {
		case 0, 1:
			p.visit()
		case 2, 3:
			p.making()
		case 4, 5:
			p.skip()
		case 6, 7, 8:
			p.named("CALL CALLCODE DELEGATECALL STATICCALL")
		case 9, 10:
			p.named("SSTORE SLOAD MSTORE CALLDATACOPY EXTCODECOPY RETURNDATACOPY")
		case 11:
			p.code = append(p.code, sample.Noise(1, p.Number())...)
		default:
			p.operation()
		}
	}
	if p.Below(3) > 0 {
		p.named("RETURN REVERT STOP RETURN SELFDESTRUCT")
	}
	return p.code
}

// drawnWorld has code at some actors, balances, slots, deposits and stakes.
func drawnWorld(d *sample.Dice) *store.World {
	p := &pen{Dice: d}
	var l []api.Entry
	for _, a := range []api.Address{me, at(0x77), at(0x78)} {
		x := api.Account{Nonce: uint64(d.Below(3)), Balance: word.From(uint64(d.Below(40))), Code: p.draw(1 + d.Below(25))}
		for i := range 3 {
			x.Slots = append(x.Slots, api.Slot{Key: word.From(uint64(i)), Value: word.From(uint64(d.Below(3)))})
		}
		if d.Below(50) == 0 {
			x.Nonce = most - 1
		}
		l = append(l, api.Entry{Addr: a, Account: x})
	}
	l = append(l, rich, api.Entry{Addr: caller, Account: api.Account{Balance: word.From(1 << 40)}}, api.Entry{Addr: desk.Self(), Account: api.Account{Balance: word.From(50)}})
	if d.Below(8) == 0 { // where the caller's creation would come to stand
		l = append(l, api.Entry{Addr: vm.Made(caller, 0), Account: api.Account{Nonce: uint64(d.Below(2)), Balance: word.From(uint64(d.Below(2))), Code: make([]byte, d.Below(2))}})
	}
	w := store.New(l)
	for _, a := range []api.Address{me, at(0x77)} {
		desk.Credit(w, a, word.From(uint64(d.Below(20))))
	}
	w.Begin()
	for _, a := range actors() {
		if d.Below(3) == 0 {
			w.Touch(a)
		}
	}
	return w
}

func drawnMessage(d *sample.Dice) api.Message {
	m := api.Message{From: caller, To: actors()[d.Below(len(actors()))], Value: word.From(uint64(d.Below(2) * d.Below(9))), Data: sample.Noise(d.Below(70), d.Number()), Gas: uint64(d.Below(150000)), Price: word.From(11 + uint64(d.Below(9)))}
	if d.Below(3) > 0 {
		m.To = me
	}
	if d.Below(5) == 0 {
		m.Create, m.Data = true, (&pen{Dice: d}).draw(1+d.Below(12))
	}
	return m
}

// sameWorlds says whether Worlds are the same, all that was touched included.
func sameWorlds(v, w *store.World) bool { return sample.SameWorlds(v, w, actors()) }

// tally counts what drawn code has done, so that none of it is missing.
type tally struct {
	done, ended    map[byte]int
	faults         map[api.Errno]int
	depths         map[int]int
	results, finds map[uint8]int
}

func newTally() tally {
	return tally{map[byte]int{}, map[byte]int{}, map[api.Errno]int{}, map[int]int{}, map[uint8]int{}, map[uint8]int{}}
}

func (c tally) count(r api.Result, l []api.Event) {
	c.results[r.Status]++
	for _, e := range l {
		c.depths[e.Depth]++
		if e.Fault == api.OK {
			c.done[e.Op]++
		} else {
			c.ended[e.Op]++
			c.faults[e.Fault]++
		}
	}
}

// check fails where something was done too seldom to be tested.
func (c tally) check(t *testing.T, least int) {
	t.Helper()
	for op, o := range known {
		if c.done[op] < least {
			t.Errorf("%s was done %d times only", o.Name, c.done[op])
		}
	}
	for _, e := range []api.Errno{api.ErrVMGas, api.ErrVMStack, api.ErrVMJump, api.ErrVMOp, api.ErrVMStatic, api.ErrVMRange, api.ErrVMCode, api.ErrVMCollide} {
		if c.faults[e] < least {
			t.Errorf("%v ended %d frames only", e, c.faults[e])
		}
	}
	for n := range 4 {
		if c.depths[n] < least {
			t.Errorf("%d operations only at depth %d", c.depths[n], n)
		}
	}
	for _, s := range []uint8{api.DoneOK, api.DoneRevert, api.DoneFault} {
		if c.results[s] < least {
			t.Errorf("%d messages only ended by %d", c.results[s], s)
		}
	}
}

func sumOf(w *store.World) *big.Int {
	sum := new(big.Int)
	for _, e := range w.Entries() {
		sum.Add(sum, big256(e.Account.Balance))
	}
	return sum
}

// unchanged says whether accounts are as before, but for the nonce of one that creates.
func unchanged(before, after *store.World, m api.Message) bool {
	c := after.Copy()
	if m.Create {
		c.SetNonce(m.From, before.Nonce(m.From))
	}
	return sample.SameEntries(before.Entries(), c.Entries())
}

// TestDrawnCalls: drawn code by the chapter's words: results, events, and all of the World.
func TestDrawnCalls(t *testing.T) {
	d := sample.Dice(130)
	c := newTally()
	for i := range 12000 {
		w, m := drawnWorld(&d), drawnMessage(&d)
		before := w.Copy()
		if i%2 == 0 {
			w.Mark()
		}
		ref := newModel(w.Copy(), block(), at(0x0b), m.Price)
		want := ref.message(m)
		r, l := vm.Call(w, block(), at(0x0b), m)
		if !sameResult(r, want) || !sample.SameEvents(l, ref.events) || !sameWorlds(w, ref.w) {
			for j := range min(len(l), len(ref.events)) {
				if !sample.SameEvent(l[j], ref.events[j]) {
					t.Errorf("event %d: %v, want %v", j, l[j], ref.events[j])
					break
				}
			}
			t.Fatalf("run %d, %v of code %x: %v, want %v, %d events, want %d", i, m, w.Code(m.To), r, want, len(l), len(ref.events))
		}
		if sumOf(w).Cmp(sumOf(before)) > 0 {
			t.Fatalf("run %d: the sum of all balances is greater", i)
		}
		if r.Status != api.DoneOK && !unchanged(before, w, m) {
			t.Fatalf("run %d: %v, and not all is as before", i, r)
		}
		c.count(r, l)
	}
	c.check(t, 30)
}

// TestDrawnSends: the same as transactions.
func TestDrawnSends(t *testing.T) {
	d := sample.Dice(131)
	for i := range 3000 {
		w, m := drawnWorld(&d), drawnMessage(&d)
		m.Gas += 53000 + zeros(m.Data) + uint64(len(m.Data))
		before := w.Copy()
		ref := newModel(w.Copy(), block(), m.From, m.Price)
		want, wantLogs, wantUsed := ref.transaction(m)
		r, logs, used, errno := vm.Send(w, block(), m)
		if errno != api.OK || !sameResult(r, want) || !sample.SameLogs(logs, wantLogs) || used != wantUsed || !sameWorlds(w, ref.w) {
			t.Fatalf("run %d, %v of code %x: %v, %d, %v, want %v, %d", i, m, w.Code(m.To), r, used, errno, want, wantUsed)
		}
		if sumOf(w).Cmp(sumOf(before)) > 0 {
			t.Fatalf("run %d: the sum of all balances is greater", i)
		}
	}
}

// TestDrawnGas: the same code with all amounts of gas around those at which something ends.
func TestDrawnGas(t *testing.T) {
	d := sample.Dice(132)
	for i := range 60 {
		w, m := drawnWorld(&d), drawnMessage(&d)
		for range 40 {
			m.Gas = uint64(d.Below(1 << (4 + d.Below(14))))
			v := w.Copy()
			ref := newModel(w.Copy(), block(), at(0x0b), m.Price)
			want := ref.message(m)
			r, l := vm.Call(v, block(), at(0x0b), m)
			if !sameResult(r, want) || !sample.SameEvents(l, ref.events) || !sameWorlds(v, ref.w) {
				t.Fatalf("run %d, %d gas: %v, want %v", i, m.Gas, r, want)
			}
		}
	}
}

// TestAnyBytes: no code makes it panic, whatever it is.
func TestAnyBytes(t *testing.T) {
	d := sample.Dice(133)
	for i := range 4000 {
		code := sample.Noise(d.Below(200), d.Number())
		if i%2 == 0 { // with much on the stack
			code = append(assemble(strings.Repeat("1 ", 20)), code...)
		}
		w := store.New([]api.Entry{{Addr: me, Account: api.Account{Code: code, Balance: d.Word()}}, {Addr: caller, Account: api.Account{Balance: d.Word()}}})
		m := api.Message{From: caller, To: me, Value: word.From(uint64(i % 2)), Data: code, Gas: uint64(d.Below(1 << 20)), Create: i%7 == 0}
		ref := newModel(w.Copy(), api.Block{Number: d.Number()}, word.Addr(d.Word()), d.Word())
		want := ref.message(m)
		r, l := vm.Call(w, ref.b, ref.origin, api.Message{From: m.From, To: m.To, Create: m.Create, Value: m.Value, Data: m.Data, Gas: m.Gas, Price: ref.price})
		if !sameResult(r, want) || !sample.SameEvents(l, ref.events) || !sameWorlds(w, ref.w) {
			t.Fatalf("run %d, code %x: %v, want %v", i, code, r, want)
		}
	}
}
