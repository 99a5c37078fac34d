package rules_test

import (
	"slices"
	"strconv"
	"testing"

	"quaestor/abi"
	"quaestor/api"
	"quaestor/desk"
	"quaestor/entry"
	"quaestor/rules"
	"quaestor/sample"
	"quaestor/store"
	"quaestor/vm"
	"quaestor/word"
)

var assemble = sample.Assembler()

// digits are a word or an address as assemble reads it.
func digits(b []byte) string { return sample.Digits(b) }

func number(n int) string { return strconv.Itoa(n) }

// What accounts answer that accept: a word 0; and what paymasters answer: no bytes, and a word 0.
const (
	accepts  = " 0 0 MSTORE 32 0 RETURN"
	sponsors = " 64 0 MSTORE 0 32 MSTORE 0 64 MSTORE 96 0 RETURN"
)

// calls is the text of a call with data, of which the answer does not count.
func calls(a api.Address, value string, data []byte) string {
	text := ""
	for i, piece := range slices.Collect(slices.Chunk(data, 32)) {
		piece = append(slices.Clone(piece), make([]byte, 32-len(piece))...)
		text += digits(piece) + " " + number(32*i) + " MSTORE "
	}
	return text + " 0 0 " + number(len(data)) + " 0 " + value + " " + digits(a[:]) + " GAS CALL POP "
}

// mapping is the text of an account that counts, for who is told in the data, in a slot that is associated with who that is.
const mapping = "0 CALLDATALOAD 0 MSTORE 5 32 MSTORE 64 0 KECCAK256 3 ADD DUP1 SLOAD 1 ADD SWAP1 SSTORE STOP"

// reader is the text of an account that reads a slot of its own.
const reader = "7 SLOAD POP STOP"

// validation is what those who take part do, as texts; without a text there is no paymaster, and no factory.
type validation struct {
	sender, payer string
	makes         string // what a factory does ahead of making the sender
	staked        []api.Address
}

// made is the address of an account that the factory makes with a salt, and code that makes it.
func made(sender string) (api.Address, []byte) {
	code := assemble(sender)
	head := func(offset int) []byte {
		return assemble("#61" + digits([]byte{byte(len(code) >> 8), byte(len(code))})[2:] + " DUP1 #60" + digits([]byte{byte(offset)})[2:] + " 0 CODECOPY 0 RETURN")
	}
	init := append(head(len(head(0))), code...)
	return vm.Made2(factory, api.Word{9}, init), init
}

// factoryCode is the code of one that makes an account with a salt, does something, and answers the account's address.
func factoryCode(init []byte, create, does string) []byte {
	two := func(n int) string { return "#61" + digits([]byte{byte(n >> 8), byte(n)})[2:] }
	text := func(offset int) string {
		return two(len(init)) + " " + two(offset) + " 0 CODECOPY " + does + create + " 0 MSTORE 32 0 RETURN"
	}
	return append(assemble(text(len(assemble(text(0))))), init...)
}

// check verifies an operation, and answers the rules that it violates, each once, by role.
func (v validation) check(t *testing.T) [4][]uint8 {
	t.Helper()
	x := api.UserOp{Sender: me, VerifyGas: 900000, MaxFee: api.Word{1}}
	code := map[api.Address][]byte{shop: assemble(mapping), at(0x44): assemble(reader), me: assemble(v.sender)}
	if v.makes != "" {
		sender, init := made(v.sender)
		x.Sender, x.HasFactory, x.Factory = sender, true, factory
		code[factory] = factoryCode(init, "9 "+number(len(init))+" 0 0 CREATE2", v.makes)
	}
	if v.payer != "" {
		x.HasPaymaster, x.Paymaster, x.PayVerifyGas = true, payer, 900000
		code[payer] = assemble(v.payer)
	}
	var l []api.Entry
	for a, c := range code {
		l = append(l, api.Entry{Addr: a, Account: api.Account{Code: c, Balance: api.Word{1 << 40}}})
	}
	w := store.New(append(l, api.Entry{Addr: self, Account: api.Account{Balance: api.Word{1 << 40}}}))
	desk.Credit(w, x.Sender, api.Word{1 << 30})
	desk.Credit(w, payer, api.Word{1 << 30})
	for _, a := range v.staked {
		stake(w, a, api.Stake{Amount: api.Word{1e18}, Delay: 86400})
	}
	staked := rules.Stakes(w, x)
	_, events, errno := entry.Verify(w, api.Block{Number: 3, Time: 9}, at(0xbe), x)
	if errno != api.OK {
		t.Fatalf("%v: %v", v, errno)
	}
	var found [4][]uint8
	for _, b := range rules.Check(w, x, events, staked) {
		if b.At >= len(events[b.Role]) {
			t.Errorf("%v: %v of %d events", v, b, len(events[b.Role]))
		}
		if l := found[b.Role]; !slices.Contains(l, b.Rule) {
			found[b.Role] = append(l, b.Rule)
		}
	}
	return found
}

// senderDoes is what an account comes to that does something, and accepts.
func senderDoes(does string) validation { return validation{sender: does + accepts} }

// TestMachineSender: what accounts may do in a validation, and may not.
func TestMachineSender(t *testing.T) {
	deposit := slices.Concat(deposits, word.Bytes(word.Wide(me)))
	withdraw := slices.Concat(abi.Selector("withdrawTo(address,uint256)"), word.Bytes(word.Wide(me)), word.Bytes(api.Word{1}))
	for _, y := range []struct {
		does string
		want []uint8
	}{
		{"", nil},
		{"1 2 ADD POP CALLER POP ADDRESS POP CHAINID POP", nil},
		{"TIMESTAMP POP", []uint8{1}},
		{"NUMBER POP", []uint8{1}},
		{"ORIGIN POP", []uint8{1}},
		{"SELFBALANCE POP", []uint8{1}},
		{"5 BALANCE POP", []uint8{1}},
		{"GAS POP", []uint8{2}},
		{"3 SLOAD 1 ADD 3 SSTORE", nil},
		{"0 0 0 CREATE POP", []uint8{4}},
		{"1 0 0 0 CREATE2 POP", []uint8{4}},
		{"0x99 EXTCODESIZE POP", []uint8{5}},
		{"2 EXTCODESIZE POP", nil},
		{"0x44 EXTCODEHASH POP", nil},
		{calls(shop, "0", word.Bytes(word.Wide(me))), nil},
		{calls(shop, "0", word.Bytes(word.Wide(payer))), []uint8{8}},
		{calls(shop, "1", word.Bytes(word.Wide(me))), []uint8{6}},
		{calls(at(0x44), "0", nil), []uint8{8}},
		{calls(at(0x99), "0", nil), []uint8{5}},
		{calls(at(0x99), "1", nil), []uint8{5, 6}},
		{calls(self, "5", nil), nil},
		{calls(self, "5", deposit), nil},
		{calls(self, "0", withdraw), []uint8{7}},
		{"0 0 0 0 0 0x44 100 CALL POP", []uint8{3}},
		{"0 0 0 0 0x44 GAS DELEGATECALL POP", nil},
	} {
		got := senderDoes(y.does).check(t)
		slices.Sort(got[1])
		if !slices.Equal(got[1], y.want) || got[2] != nil || got[3] != nil {
			t.Errorf("%s: %v, want %v", y.does, got, y.want)
		}
	}
}

// TestMachineStaked: what one who has a stake may do, and may not.
func TestMachineStaked(t *testing.T) {
	mine := word.Bytes(word.Wide(payer))
	for _, y := range []struct {
		does         string
		bare, staked []uint8
	}{
		{"", nil, nil},
		{"3 SLOAD POP", []uint8{8}, nil},
		{"1 3 SSTORE", []uint8{8}, nil},
		{"SELFBALANCE POP", []uint8{1}, nil},
		{"BASEFEE POP", []uint8{1}, []uint8{1}},
		{calls(shop, "0", mine), []uint8{8}, nil},
		{calls(at(0x44), "0", nil), []uint8{8}, nil},
		{calls(shop, "0", word.Bytes(word.Wide(me))), nil, nil},
		{calls(shop, "0", word.Bytes(word.Wide(nobody))), []uint8{8}, []uint8{8}},
	} {
		v := senderDoes("")
		v.payer = y.does + sponsors
		if got := v.check(t); !slices.Equal(got[3], y.bare) || got[1] != nil || got[2] != nil {
			t.Errorf("%s: %v, want %v", y.does, got, y.bare)
		}
		v.staked = []api.Address{payer}
		if got := v.check(t); !slices.Equal(got[3], y.staked) || got[1] != nil || got[2] != nil {
			t.Errorf("%s, staked: %v, want %v", y.does, got, y.staked)
		}
	}
}

// TestMachineFactory: what a factory may do that makes the sender, and what the sender may do then.
func TestMachineFactory(t *testing.T) {
	sender := "ADDRESS 0 MSTORE 0 0 32 0 0 " + digits(shop[:]) + " GAS CALL POP" + accepts
	for _, y := range []struct {
		sender, does string
		staked       []api.Address
		want         [4][]uint8
	}{
		{accepts, "JUMPDEST ", nil, [4][]uint8{}},
		{"3 SLOAD 1 ADD 3 SSTORE" + accepts, "JUMPDEST ", nil, [4][]uint8{}},
		{accepts, "0 0 0 CREATE POP ", nil, [4][]uint8{2: {4}}},
		{accepts, "8 0 0 0 CREATE2 POP ", nil, [4][]uint8{2: {4}}},
		{accepts, "1 SLOAD POP ", nil, [4][]uint8{2: {8}}},
		{accepts, "1 SLOAD POP ", []api.Address{factory}, [4][]uint8{}},
		{sender, "JUMPDEST ", nil, [4][]uint8{1: {8}}},
		{sender, "JUMPDEST ", []api.Address{factory}, [4][]uint8{}},
	} {
		got := validation{sender: y.sender, makes: y.does, staked: y.staked}.check(t)
		for role := range got {
			if !slices.Equal(got[role], y.want[role]) {
				t.Errorf("%v: %v, want %v", y, got, y.want)
			}
		}
	}
}
