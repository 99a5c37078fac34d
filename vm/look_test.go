package vm_test

import (
	"bytes"
	"strings"
	"testing"

	"quaestor/api"
	"quaestor/keccak"
	"quaestor/sample"
	"quaestor/store"
	"quaestor/vm"
	"quaestor/word"
)

// TestLooks: what operations find in the frame, the message, the block and the World.
func TestLooks(t *testing.T) {
	coded := entry(at(0x77), 30, "1 2 ADD")
	empty := api.Entry{Addr: at(0x88), Account: api.Account{Slots: []api.Slot{{Key: api.Word{1}, Value: api.Word{1}}}}} // it does not exist
	noCode := keccak.Sum(nil)
	for text, want := range map[string]api.Word{
		"ADDRESS": word.Wide(me), "ORIGIN": {0x0b}, "CALLER": word.Wide(caller), "CALLVALUE": {}, "GASPRICE": {14}, "CALLDATASIZE": {5}, "RETURNDATASIZE": {}, "CODESIZE": {1 + 8},
		"COINBASE": {0xc0}, "TIMESTAMP": {7}, "NUMBER": {300}, "PREVRANDAO": {13, 1}, "GASLIMIT": {1 << 50}, "CHAINID": {12}, "BASEFEE": {11}, "SELFBALANCE": {100}, "ADDRESS BALANCE": {100},
		"0x77 BALANCE": {30}, "0x55 BALANCE": {9}, "0x66 BALANCE": {}, digits(api.Word{0x55, 0, 1 << 32, 1}) + " BALANCE": {9}, digits(api.Word{0x55, 0, 1}) + " BALANCE": {},
		"0x77 EXTCODESIZE": {5}, "0x55 EXTCODESIZE": {}, digits(api.Word{0x77, 0, 0, 1 << 63}) + " EXTCODESIZE": {5},
		"0x77 EXTCODEHASH": keccak.Sum(assemble("1 2 ADD")), "0x55 EXTCODEHASH": noCode, "0x66 EXTCODEHASH": {}, "0x88 EXTCODEHASH": {}, digits(api.Word{0x77, 0, 7 << 32}) + " EXTCODEHASH": keccak.Sum(assemble("1 2 ADD")),
		"0x77 EXTCODEHASH POP 0x77 EXTCODEHASH": keccak.Sum(assemble("1 2 ADD")), "0x77 EXTCODEHASH POP 0x55 EXTCODEHASH": noCode,
		"1 SLOAD": {}, "MSIZE": {}, "0 MLOAD POP MSIZE": {32}, "1 MLOAD POP MSIZE": {64}, "70 MLOAD POP 0 MLOAD POP MSIZE": {128}, "0 100 KECCAK256 POP MSIZE": {}, "1 99 KECCAK256 POP MSIZE": {128},
		"GAS": {enough - 2}, "1 POP GAS": {enough - 7}, "0x55 BALANCE GAS": {enough - 2605},
		"0x0102 0 MSTORE 2 30 KECCAK256": keccak.Sum([]byte{1, 2}), "0 0 KECCAK256": noCode,
	} {
		if got := answer(t, text, rich, coded, empty); got != want {
			t.Errorf("%s: %v, want %v", text, got, want)
		}
	}
}

// TestBlockHash: of the last 256 blocks.
func TestBlockHash(t *testing.T) {
	for _, number := range []uint64{0, 1, 255, 256, 257, 300, 1000, most} {
		for _, a := range []api.Word{{}, {1}, {number}, {number - 1}, {number + 1}, {number - 255}, {number - 256}, {number - 257}, {number / 2}, {most}, {number - 1, 1}, {number - 1, 0, 0, 1}, all} {
			b := block()
			b.Number = number
			w := worldOf(digits(a) + " BLOCKHASH 0 MSTORE 32 0 RETURN")
			r, _ := vm.Call(w, b, caller, plain(enough))
			want := api.Word{}
			if a == (api.Word{a[0]}) && a[0] < number && number-a[0] <= 256 {
				want = keccak.Join(a)
			}
			if word.Read(r.Out) != want {
				t.Errorf("number %d, %v: %x, want %v", number, a, r.Out, want)
			}
		}
	}
}

// TestCalldata: at all places of the data, and behind it.
func TestCalldata(t *testing.T) {
	data := sample.Noise(90, 1) // more than is passed
	places := []api.Word{{1 << 32}, {most}, {most - 31}, {most - 10}, {0, 1}, {5, 1}, {5, 0, 0, 1}, all}
	for i := range uint64(90) {
		places = append(places, api.Word{i})
	}
	for _, p := range places {
		want := make([]byte, 32)
		if p == (api.Word{p[0]}) && p[0] < 50 {
			copy(want, data[p[0]:50])
		}
		w := worldOf(digits(p) + " CALLDATALOAD 0 MSTORE 32 0 RETURN")
		m := plain(enough)
		m.Data = data[:50]
		if r, _ := vm.Call(w, block(), caller, m); !bytes.Equal(r.Out, want) {
			t.Errorf("at %v: %x, want %x", p, r.Out, want)
		}
	}
}

// TestCalc: what layer 11 does is done with the words in their order.
func TestCalc(t *testing.T) {
	for text, want := range map[string]api.Word{
		"3 10 SUB": {7}, "3 10 DIV": {3}, "3 10 MOD": {1}, "7 5 4 ADDMOD": {2}, "7 5 4 MULMOD": {6}, "3 2 EXP": {8}, "0xff 0 SIGNEXTEND": all, "10 3 LT": {1}, "3 10 LT": {}, "3 10 GT": {1}, "1 0 NOT SLT": {1}, "0 NOT 1 SGT": {1},
		"5 5 EQ": {1}, "0 ISZERO": {1}, "12 10 AND": {8}, "12 10 OR": {14}, "12 10 XOR": {6}, "0 NOT": all, "0xabcd 31 BYTE": {0xcd}, "1 4 SHL": {16}, "16 4 SHR": {1}, "0 NOT 4 SAR": all, "2 3 ADD": {5}, "2 3 MUL": {6}, "2 8 SDIV": {4}, "3 8 SMOD": {2},
	} {
		if got := answer(t, text); got != want {
			t.Errorf("%s: %v, want %v", text, got, want)
		}
	}
}

// TestDupSwap: of seventeen words the right one.
func TestDupSwap(t *testing.T) {
	var pushes []string
	for i := range 17 {
		pushes = append(pushes, number(uint64(100+i)))
	}
	lead := strings.Join(pushes, " ") // 116 is on top
	for n := range uint64(16) {
		if got := answer(t, lead+" DUP"+number(n+1)); got != word.From(116-n) {
			t.Errorf("DUP%d: %v", n+1, got)
		}
		swap := lead + " SWAP" + number(n+1)
		for i := range uint64(17) {
			want := 116 - i
			switch i {
			case 0:
				want = 116 - n - 1
			case n + 1:
				want = 116
			}
			if got := answer(t, swap+strings.Repeat(" POP", int(i))); got != word.From(want) {
				t.Errorf("SWAP%d: the word %d is %v, want %d", n+1, i, got, want)
			}
		}
	}
}

// TestPush: all lengths, with bytes behind the end, too.
func TestPush(t *testing.T) {
	for n := range 33 {
		b := sample.Noise(n, uint64(n))
		code := append([]byte{byte(0x5f + n)}, b...)
		r, l, _ := run("#"+hexBytes(code)+" 0 MSTORE 32 0 RETURN", enough)
		if r.Status != api.DoneOK || word.Read(r.Out) != word.Read(b) || len(l) != 6 {
			t.Errorf("PUSH%d: %v", n, r)
		}
	}
}

func hexBytes(b []byte) string {
	var s strings.Builder
	for _, x := range b {
		s.WriteString(hexByte(x))
	}
	return s.String()
}

// TestSlots: what is set is there, and by the account that set it.
func TestSlots(t *testing.T) {
	const text = "7 0 SSTORE 8 1 SSTORE 9 0 SSTORE 0 2 SSTORE 3 SLOAD 1 ADD 3 SSTORE 0 SLOAD 1 SLOAD ADD"
	w := worldOf(text+" 0 MSTORE 32 0 RETURN", rich)
	w.SetSlot(me, api.Word{2}, api.Word{5})
	w.SetSlot(me, api.Word{3}, api.Word{5})
	w.SetSlot(at(0x55), api.Word{3}, api.Word{50})
	r, _ := vm.Call(w, block(), caller, plain(enough))
	want := []api.Word{{9}, {8}, {}, {6}}
	for i, v := range want {
		if got := w.Slot(me, word.From(uint64(i))); got != v {
			t.Errorf("slot %d: %v, want %v", i, got, v)
		}
	}
	if word.Read(r.Out) != word.From(17) || w.Slot(at(0x55), api.Word{3}) != (api.Word{50}) || w.Slot(caller, api.Word{}) != (api.Word{}) {
		t.Errorf("%v, %v", r, w.Entries())
	}
	great := digits(api.Word{1, 2, 3, 4})
	if got := answer(t, digits(all)+" "+great+" SSTORE "+great+" SLOAD"); got != all {
		t.Errorf("%v", got)
	}
}

// TestMemory: words and bytes, across each other.
func TestMemory(t *testing.T) {
	value := api.Word{4, 3, 2, 1}
	for n := range uint64(70) {
		text := digits(all) + " 0 MSTORE " + digits(all) + " 32 MSTORE " + digits(value) + " " + number(n)
		mem := bytes.Repeat([]byte{0xff}, 64)
		mem = append(mem, make([]byte, 64)...)
		want := bytes.Clone(mem)
		copy(want[n:], word.Bytes(value))
		r, _, _ := run(text+" MSTORE 128 0 RETURN", enough)
		if !bytes.Equal(r.Out, want) {
			t.Errorf("MSTORE at %d: %x, want %x", n, r.Out, want)
		}
		want = bytes.Clone(mem)
		want[n] = 4
		r, _, _ = run(text+" MSTORE8 128 0 RETURN", enough)
		if !bytes.Equal(r.Out, want) {
			t.Errorf("MSTORE8 at %d: %x, want %x", n, r.Out, want)
		}
		if got := answer(t, text+" MSTORE "+number(n)+" MLOAD"); got != value {
			t.Errorf("MLOAD at %d: %v", n, got)
		}
	}
	if got := answer(t, "0x1234 31 MSTORE8 0 MLOAD"); got != word.From(0x34) {
		t.Errorf("%v", got)
	}
}

// copies checks an operation that copies from bytes, ahead of whose place in memory the address may stand.
func copies(t *testing.T, lead, op, who string, from func(w *store.World) []byte, strict bool) {
	t.Helper()
	places := []api.Word{{1 << 40}, {most}, {most - 3}, {0, 1}, {3, 0, 1}, all}
	for i := range uint64(9) {
		places = append(places, api.Word{7 * i})
	}
	for _, p := range places {
		for _, to := range []uint64{0, 5, 60} {
			for _, n := range []uint64{0, 1, 7, 32, 70} {
				text := lead + " " + digits(all) + " 0 MSTORE " + digits(all) + " 32 MSTORE " + number(n) + " " + digits(p) + " " + number(to) + " " + who + " " + op + " 160 0 RETURN"
				w := worldOf(text, entry(at(0x77), 0, "1 2 3 4 5 6 7 8 9 10 11 12 13 14 15 16"), entry(at(0x78), 0, answering))
				m := plain(enough)
				m.Data = append(sample.Noise(40, 9), 1, 2, 3)[:40]
				r, _ := vm.Call(w, block(), caller, m)
				source := from(w)
				fits := p == api.Word{p[0]} && p[0] <= uint64(len(source)) && n <= uint64(len(source))-p[0]
				if strict && !fits {
					if r.Fault != api.ErrVMRange {
						t.Errorf("%s: %d bytes from %v: %v", op, n, p, r)
					}
					continue
				}
				want := append(bytes.Repeat([]byte{0xff}, 64), make([]byte, 96)...)
				piece := make([]byte, n)
				if p == (api.Word{p[0]}) && p[0] < uint64(len(source)) {
					copy(piece, source[p[0]:])
				}
				copy(want[to:], piece)
				if !bytes.Equal(r.Out, want) {
					t.Errorf("%s: %d bytes from %v to %d: %v, want %x", op, n, p, to, r, want)
				}
			}
		}
	}
}

// answering is code that answers 45 bytes.
const answering = "0x0102030405060708090a0b0c0d0e0f101112131415161718191a1b1c1d1e1f20 0 MSTORE 0x21222324252627 9 MSTORE 45 0 RETURN"

func TestCopies(t *testing.T) {
	copies(t, "", "CALLDATACOPY", "", func(*store.World) []byte { return sample.Noise(40, 9) }, false)
	copies(t, "", "CODECOPY", "", func(w *store.World) []byte { return w.Code(me) }, false)
	copies(t, "", "EXTCODECOPY", "0x77", func(w *store.World) []byte { return w.Code(at(0x77)) }, false)
	copies(t, "", "EXTCODECOPY", "0x66", func(*store.World) []byte { return nil }, false)
	copies(t, "", "EXTCODECOPY", digits(api.Word{0x77, 0, 5 << 32}), func(w *store.World) []byte { return w.Code(at(0x77)) }, false)
	copies(t, "", "RETURNDATACOPY", "", func(*store.World) []byte { return nil }, true)
	copies(t, "0 0 0 0 0 0x78 GAS CALL POP", "RETURNDATACOPY", "", func(w *store.World) []byte {
		r, _ := vm.Call(w, block(), caller, api.Message{To: at(0x78), Gas: enough})
		return r.Out
	}, true)
}

// TestLogs: who logged what, in which order.
func TestLogs(t *testing.T) {
	_, _, w := run("0xabcdef 0 MSTORE 3 29 LOG0 1 2 3 4 2 30 LOG4 5 0 0 LOG1 6 7 1 31 LOG2 8 9 10 33 0 LOG3", enough)
	want := []api.Log{
		{Addr: me, Data: []byte{0xab, 0xcd, 0xef}}, {Addr: me, Topics: []api.Word{{4}, {3}, {2}, {1}}, Data: []byte{0xcd, 0xef}}, {Addr: me, Topics: []api.Word{{5}}},
		{Addr: me, Topics: []api.Word{{7}, {6}}, Data: []byte{0xef}}, {Addr: me, Topics: []api.Word{{10}, {9}, {8}}, Data: append(word.Bytes(word.From(0xabcdef)), 0)},
	}
	if !sample.SameLogs(w.Logs(), want) {
		t.Errorf("%v, want %v", w.Logs(), want)
	}
}
