package vm_test

import (
	"strings"
	"testing"

	"quaestor/api"
	"quaestor/store"
	"quaestor/vm"
	"quaestor/word"
)

// rich is an account that exists by its balance alone.
var rich = api.Entry{Addr: at(0x55), Account: api.Account{Balance: api.Word{9}}}

// TestCosts: what code costs to the last gas, pushes and all.
func TestCosts(t *testing.T) {
	for text, want := range map[string]uint64{
		"": 0, "STOP": 0, "JUMPDEST": 1, "1": 3, "#5f": 2, "PC": 2, "1 POP": 5, "1 DUP1": 6, "1 2 SWAP1": 9, "3 JUMP JUMPDEST": 3 + 8 + 1, "0 0 JUMPI": 6 + 10, "1 5 JUMPI JUMPDEST": 6 + 10 + 1,
		"1 2 ADD": 9, "1 2 MUL": 11, "1 2 3 ADDMOD": 17, "SELFBALANCE": 5, "0 BLOCKHASH": 23,
		"0 1 EXP": 16, "1 0 EXP": 66, "255 1 EXP": 66, "256 1 EXP": 116, digits(api.Word{0, 0, 0, 1}) + " 7 EXP": 16 + 50*25, digits(all) + " 7 EXP": 16 + 50*32,

		// memory
		"0 MLOAD": 3 + 3 + 3, "1 MLOAD": 3 + 3 + 6, "32 MLOAD": 3 + 3 + 6, "33 MLOAD": 3 + 3 + 9, "0 MLOAD 0 MLOAD": 9 + 6, "0 MLOAD 1 MLOAD": 9 + 6 + 3, "64 MLOAD 0 MLOAD": 15 + 6, "32736 MLOAD": 3 + 3 + 3072 + 2048, "32737 MLOAD": 3 + 3 + 3075 + 2052,
		"0 0 MSTORE": 6 + 3 + 3, "0 1 MSTORE": 6 + 3 + 6, "0 0 MSTORE8": 6 + 3 + 3, "0 31 MSTORE8": 6 + 3 + 3, "0 32 MSTORE8": 6 + 3 + 6, "0 32 MSTORE8 MSIZE": 6 + 3 + 6 + 2,
		"0 0 RETURN": 6, "1 0 RETURN": 6 + 3, "33 0 RETURN": 6 + 6, "1 32 RETURN": 6 + 6, "0 " + digits(all) + " RETURN": 6,

		"0 0 KECCAK256": 6 + 30, "1 0 KECCAK256": 6 + 30 + 6 + 3, "32 0 KECCAK256": 6 + 30 + 6 + 3, "33 0 KECCAK256": 6 + 30 + 12 + 6, "32 1 KECCAK256": 6 + 30 + 6 + 6, "0 " + digits(all) + " KECCAK256": 36,
		"0 0 0 CALLDATACOPY": 9 + 3, "1 0 0 CALLDATACOPY": 9 + 3 + 3 + 3, "33 0 0 CALLDATACOPY": 9 + 3 + 6 + 6, "32 0 32 CALLDATACOPY": 9 + 3 + 3 + 6, "0 " + digits(all) + " 0 CALLDATACOPY": 12, "1 " + digits(all) + " 0 CALLDATACOPY": 18, "0 0 " + digits(all) + " CALLDATACOPY": 12,
		"0 0 0 CODECOPY": 12, "33 0 1 CODECOPY": 9 + 3 + 6 + 6, "65 9 0 CODECOPY": 9 + 3 + 9 + 9, "0 0 0 RETURNDATACOPY": 12,
		"0 0 0 0x55 EXTCODECOPY": 12 + 2600, "33 0 1 0x55 EXTCODECOPY": 12 + 2600 + 6 + 6, "33 32 0 0x55 EXTCODECOPY 1 0 0 0x55 EXTCODECOPY": 12 + 2600 + 6 + 6 + 12 + 100 + 3,
		"0 0 LOG0": 6 + 375, "1 0 LOG0": 6 + 375 + 8 + 3, "33 0 LOG0": 6 + 375 + 264 + 6, "0 0 0 LOG1": 9 + 750, "0 0 0 0 LOG2": 12 + 1125, "0 0 0 0 0 LOG3": 15 + 1500, "0 0 0 0 9 0 LOG4": 18 + 1875 + 72 + 3,

		// access
		"0x55 BALANCE": 3 + 2600, "0x55 BALANCE 0x55 BALANCE": 3 + 2600 + 103, "0x55 EXTCODESIZE 0x55 EXTCODEHASH 0x55 BALANCE": 3 + 2600 + 103 + 103, "0x66 EXTCODEHASH 0x66 EXTCODESIZE": 3 + 2600 + 103, "ADDRESS BALANCE": 2 + 2600,
		digits(api.Word{0x55, 0, 1 << 32}) + " BALANCE 0x55 BALANCE": 3 + 2600 + 103, "0x55 BALANCE 0x56 BALANCE": 3 + 2600 + 3 + 2600,
		"0 SLOAD": 3 + 2100, "0 SLOAD 0 SLOAD": 3 + 2100 + 103, "0 SLOAD 1 SLOAD": 6 + 4200, "0 0 SSTORE 0 SLOAD": 6 + 2200 + 3 + 100,
	} {
		if got := spent(t, text, rich); got != want {
			t.Errorf("%s: %d gas, want %d", text, got, want)
		}
	}
}

// needs checks what code needs, of which some is given back, as what a call leaves is.
func needs(t *testing.T, text string, need, back uint64, more ...api.Entry) {
	t.Helper()
	if r, _, _ := run(text, need, more...); r.Status != api.DoneOK || r.Gas != back {
		t.Errorf("%s with %d gas: %v, want %d left", text, need, r, back)
	}
	if e := faultOf(t, text, need-1, more...); e != api.ErrVMGas {
		t.Errorf("%s with %d gas: %v", text, need-1, e)
	}
}

// TestCallCosts: what calls cost that have no gas beside 2300.
func TestCallCosts(t *testing.T) {
	for text, x := range map[string][2]uint64{
		"0 0 0 0 0 0x55 0 CALL": {21 + 2600, 0}, "0 0 0 0 0 0x66 0 CALL": {21 + 2600, 0}, "0x55 BALANCE 0 0 0 0 0 0x55 0 CALL": {2603 + 21 + 100, 0},
		"0 0 0 0 1 0x55 0 CALL": {21 + 2600 + 9000, 2300}, "0 0 0 0 1 0x66 0 CALL": {21 + 2600 + 9000 + 25000, 2300}, "0 0 0 0 200 0x66 0 CALL": {21 + 2600 + 9000 + 25000, 2300},
		"0 0 0 0 0 0x55 0 CALLCODE": {21 + 2600, 0}, "0 0 0 0 1 0x55 0 CALLCODE": {21 + 2600 + 9000, 2300}, "0 0 0 0 1 0x66 0 CALLCODE": {21 + 2600 + 9000, 2300}, "0 0 0 0 200 0x66 0 CALLCODE": {21 + 2600 + 9000, 2300},
		"0 0 0 0 0x55 0 DELEGATECALL": {18 + 2600, 0}, "0 0 0 0 0x66 0 DELEGATECALL": {18 + 2600, 0}, "0 0 0 0 0x55 0 STATICCALL": {18 + 2600, 0}, "0 0 0 0 0x66 0 STATICCALL": {18 + 2600, 0},
		"0 0 0 0 " + digits(api.Word{0x55, 0, 1 << 40}) + " 0 STATICCALL 0x55 BALANCE": {18 + 2600 + 103, 0},
		// ranges: the greater one counts
		"0 0 1 0 0 0x55 0 CALL": {21 + 2600 + 3, 0}, "1 0 0 0 0 0x55 0 CALL": {21 + 2600 + 3, 0}, "33 0 1 0 0 0x55 0 CALL": {21 + 2600 + 6, 0}, "1 0 1 64 0 0x55 0 CALL": {21 + 2600 + 9, 0}, "0 " + digits(all) + " 0 " + digits(all) + " 0 0x55 0 CALL": {21 + 2600, 0},
		"0 0 33 1 1 0x55 0 CALLCODE": {21 + 2600 + 9000 + 6, 2300}, "1 64 0 0 0 0x55 0 CALLCODE": {21 + 2600 + 9, 0},
		"0 0 33 1 0x55 0 DELEGATECALL": {18 + 2600 + 6, 0}, "1 64 9 0 0x55 0 DELEGATECALL": {18 + 2600 + 9, 0}, "0 0 33 1 0x55 0 STATICCALL": {18 + 2600 + 6, 0}, "1 64 9 0 0x55 0 STATICCALL": {18 + 2600 + 9, 0},
	} {
		needs(t, text, x[0], x[1], rich)
	}
}

// TestCreateCosts: creations of empty code, and of long code.
func TestCreateCosts(t *testing.T) {
	memory := func(n uint64) uint64 { w := (n + 31) / 32; return 3*w + w*w/512 }
	for _, n := range []uint64{0, 1, 32, 33, 64, 1000, 49151, 49152} {
		words := (n + 31) / 32
		pushes := uint64(9)
		needs(t, number(n)+" 0 0 CREATE", pushes+32000+2*words+memory(n), 0)
		needs(t, "7 "+number(n)+" 0 0 CREATE2", pushes+3+32000+8*words+memory(n), 0)
	}
	for _, n := range []string{"49153", "49184", "1000000"} {
		if e := faultOf(t, n+" 0 0 CREATE", enough); e != api.ErrVMGas {
			t.Errorf("CREATE by %s bytes: %v", n, e)
		}
		if e := faultOf(t, "0 "+n+" 0 0 CREATE2", enough); e != api.ErrVMGas {
			t.Errorf("CREATE2 by %s bytes: %v", n, e)
		}
	}
	needs(t, "0 "+digits(all)+" 0 CREATE", 9+32000, 0)
}

// TestDestroyCosts: who inherits, and what.
func TestDestroyCosts(t *testing.T) {
	for _, x := range []struct {
		balance uint64
		text    string
		want    uint64
	}{
		{100, "0x55 SELFDESTRUCT", 3 + 5000 + 2600}, {100, "0x66 SELFDESTRUCT", 3 + 5000 + 2600 + 25000}, {0, "0x66 SELFDESTRUCT", 3 + 5000 + 2600},
		{100, "0x55 BALANCE 0x55 SELFDESTRUCT", 2603 + 3 + 5000}, {100, "0x66 BALANCE 0x66 SELFDESTRUCT", 2603 + 3 + 5000 + 25000}, {100, "ADDRESS SELFDESTRUCT", 2 + 5000 + 2600},
	} {
		for gas := x.want - 2; gas <= x.want+2; gas++ {
			w := store.New([]api.Entry{entry(me, x.balance, x.text), rich})
			r, _ := vm.Call(w, block(), caller, plain(gas))
			if gas < x.want && r.Fault != api.ErrVMGas || gas >= x.want && (r.Status != api.DoneOK || r.Gas != gas-x.want) {
				t.Errorf("%s of %d with %d gas: %v", x.text, x.balance, gas, r)
			}
		}
	}
}

// storing is code that sets slot 0 to values in turn.
func storing(values ...string) string {
	var l []string
	for _, v := range values {
		l = append(l, v+" 0 SSTORE")
	}
	return strings.Join(l, " ")
}

// TestStoreCosts: costs and refunds of changes of a slot that was 0, or 5; as they are known of Ethereum, where the first one is cold.
func TestStoreCosts(t *testing.T) {
	for _, x := range []struct {
		first  uint64
		values string
		cost   uint64
		refund int64
	}{
		{0, "0 0", 200, 0}, {0, "0 1", 20100, 0}, {0, "1 0", 20100, 19900}, {0, "1 2", 20100, 0}, {0, "1 1", 20100, 0},
		{1, "0 0", 3000, 4800}, {1, "0 1", 3000, 2800}, {1, "0 2", 3000, 0}, {1, "2 0", 3000, 4800}, {1, "2 3", 3000, 0}, {1, "2 1", 3000, 2800}, {1, "2 2", 3000, 0}, {1, "1 0", 3000, 4800}, {1, "1 2", 3000, 0}, {1, "1 1", 200, 0},
		{0, "1 0 1", 40100, 19900}, {1, "0 1 0", 5900, 7600}, {5, "0 7 0 5", 3200, 2800},
	} {
		n := uint64(len(strings.Fields(x.values)))
		w := worldOf(storing(strings.Fields(x.values)...))
		w.SetSlot(me, api.Word{}, word.From(x.first))
		w.Begin()
		r, _ := vm.Call(w, block(), caller, plain(enough))
		if r.Status != api.DoneOK || enough-r.Gas != 6*n+2100+x.cost {
			t.Errorf("%d, then %s: %v, %d gas, want %d", x.first, x.values, r, enough-r.Gas, 6*n+2100+x.cost)
		}
		if w.Refunds() != x.refund {
			t.Errorf("%d, then %s: the refund is %d, want %d", x.first, x.values, w.Refunds(), x.refund)
		}
	}
}

// TestStoreLeft: a slot is not set with 2300 gas or less, whatever it costs.
func TestStoreLeft(t *testing.T) {
	for _, x := range []struct {
		text string
		need uint64
	}{
		{"0 0 SSTORE", 6 + 2301}, {"0 SLOAD 0 0 SSTORE", 2103 + 6 + 2301}, {"1 0 SSTORE", 6 + 22100}, {"0 SLOAD 1 0 SSTORE", 2103 + 6 + 20000}, {"0 0 SSTORE 0 0 SSTORE", 6 + 2200 + 6 + 2301},
	} {
		if e := faultOf(t, x.text, x.need-1); e != api.ErrVMGas {
			t.Errorf("%s with %d gas: %v", x.text, x.need-1, e)
		}
		if e := faultOf(t, x.text, x.need); e != api.OK {
			t.Errorf("%s with %d gas: %v", x.text, x.need, e)
		}
	}
}

// TestNoMemory: ranges that end where no memory can be, or that no gas pays for.
func TestNoMemory(t *testing.T) {
	for _, x := range []struct{ at, n api.Word }{
		{api.Word{1 << 32}, api.Word{1}}, {api.Word{1}, api.Word{1 << 32}}, {api.Word{1<<32 - 1}, api.Word{1}}, {api.Word{}, api.Word{1 << 32}}, {api.Word{most}, api.Word{1}}, {api.Word{most}, api.Word{2}}, {api.Word{1}, api.Word{most}},
		{api.Word{0, 1}, api.Word{1}}, {api.Word{1}, api.Word{0, 1}}, {api.Word{0, 0, 0, 1}, api.Word{1}}, {api.Word{}, api.Word{0, 0, 1}}, {all, api.Word{1}}, {api.Word{1}, all}, {all, all}, {all, api.Word{2}}, {api.Word{1 << 31}, api.Word{1}},
	} {
		at, n := digits(x.at), digits(x.n)
		for _, text := range []string{
			n + " " + at + " KECCAK256", n + " 0 " + at + " CALLDATACOPY", n + " 0 " + at + " CODECOPY", n + " 0 " + at + " 0x55 EXTCODECOPY", n + " 0 " + at + " RETURNDATACOPY", n + " " + at + " LOG0", "1 2 3 4 " + n + " " + at + " LOG4",
			n + " " + at + " RETURN", n + " " + at + " REVERT", n + " " + at + " 0 CREATE", "0 " + n + " " + at + " 0 CREATE2",
			n + " " + at + " 0 0 0 0 0 CALL", "0 0 " + n + " " + at + " 0 0 0 CALL", n + " " + at + " 0 0 0 0 0 CALLCODE", "0 0 " + n + " " + at + " 0 0 0 CALLCODE",
			n + " " + at + " 0 0 0 0 DELEGATECALL", "0 0 " + n + " " + at + " 0 0 DELEGATECALL", n + " " + at + " 0 0 0 0 STATICCALL", "0 0 " + n + " " + at + " 0 0 STATICCALL",
		} {
			r, _, _ := run(text, 1<<40)
			if r.Fault != api.ErrVMGas {
				t.Errorf("%s: %v", text, r)
			}
		}
	}
	for _, at := range []api.Word{{1 << 32}, {1<<32 - 31}, {1<<32 - 32}, {1 << 40}, {most}, {most - 31}, {most - 30}, {0, 1}, {1 << 31, 0, 0, 1}, all, {most - 31, most, most, most}} {
		for _, text := range []string{digits(at) + " MLOAD", "1 " + digits(at) + " MSTORE", "1 " + digits(at) + " MSTORE8"} {
			if r, _, _ := run(text, 1<<40); r.Fault != api.ErrVMGas && !(at == api.Word{1<<32 - 32}) {
				t.Errorf("%s: %v", text, r)
			}
		}
	}
}

// TestMuchMemory: as much as there is gas for.
func TestMuchMemory(t *testing.T) {
	const words = 1 << 19 // 16 MiB
	const gas = 3*words + words*words/512
	needs(t, number(32*words-32)+" MLOAD", 6+gas, 0)
	if got := answer(t, number(enough/10)+" MLOAD POP MSIZE"); got != word.From((enough/10+31)/32*32+32) {
		t.Errorf("%v", got)
	}
}
