package vm_test

import (
	"strings"
	"testing"

	"quaestor/api"
	"quaestor/sample"
	"quaestor/store"
	"quaestor/vm"
	"quaestor/word"
)

// TestUnknown: the bytes that are no operations end a frame, with any stack.
func TestUnknown(t *testing.T) {
	for i := range 256 {
		op := byte(i)
		if _, is := known[op]; is {
			continue
		}
		for _, n := range []int{0, 3, 1024} {
			code := strings.Repeat("1 ", n) + "#" + hexByte(op)
			if e := faultOf(t, code, enough); e != api.ErrVMOp {
				t.Errorf("%x on %d words: %v", op, n, e)
			}
			if _, l, _ := run(code, enough); l[len(l)-1].Op != op {
				t.Errorf("%x on %d words: the last event is %v", op, n, l[len(l)-1])
			}
		}
	}
}

func hexByte(b byte) string {
	return string([]byte{"0123456789abcdef"[b>>4], "0123456789abcdef"[b&15]})
}

// TestStack: an operation ends the frame if there are too few words, or would be too many, and only then.
func TestStack(t *testing.T) {
	for op, o := range known {
		raw := "#" + hexByte(op)
		for n := range o.Takes {
			if e := faultOf(t, strings.Repeat("0 ", n)+raw, enough); e != api.ErrVMStack {
				t.Errorf("%s on %d words: %v", o.Name, n, e)
			}
		}
		if e := faultOf(t, strings.Repeat("0 ", o.Takes)+raw, enough); e != api.OK && (e != api.ErrVMJump || o.Name != "JUMP") {
			t.Errorf("%s on its words: %v", o.Name, e)
		}
		full := strings.Repeat("0 ", 1024) + raw
		want := api.OK
		if o.Gives > o.Takes {
			want = api.ErrVMStack
		} else if o.Name == "JUMP" {
			want = api.ErrVMJump
		}
		if e := faultOf(t, full, enough); e != want {
			t.Errorf("%s on 1024 words: %v, want %v", o.Name, e, want)
		}
		if _, l, _ := run(full, enough); want != api.OK && l[len(l)-1].Op != op {
			t.Errorf("%s on 1024 words: the last event is %v", o.Name, l[len(l)-1])
		}
		if o.Gives > o.Takes {
			if e := faultOf(t, strings.Repeat("0 ", 1023)+raw, enough); e != api.OK {
				t.Errorf("%s on 1023 words: %v", o.Name, e)
			}
		}
	}
}

// depthOfStack is how many words are left on the stack behind code: as many as can be taken off.
func depthOfStack(t *testing.T, text string) int {
	t.Helper()
	for n := range 60 {
		r, _, _ := run(text+strings.Repeat(" POP", n), enough)
		if r.Fault == api.ErrVMStack {
			return n - 1
		}
	}
	t.Fatalf("%s leaves too much", text)
	return 0
}

// TestStackDepth: what an operation takes and gives, above words that it leaves alone.
func TestStackDepth(t *testing.T) {
	for _, o := range known {
		switch o.Name {
		case "STOP", "RETURN", "REVERT", "SELFDESTRUCT", "JUMP":
			continue
		}
		text := "5 6 " + strings.Repeat("0 ", o.Takes) + o.Name
		if 0x5f < o.Op && o.Op < 0x80 {
			text += " #" + strings.Repeat("5b", int(o.Op-0x5f))
		}
		if got := depthOfStack(t, text); got != 2+o.Gives {
			t.Errorf("%s leaves %d words", o.Name, got)
		}
	}
}

// TestOrder: of several faults the one that is looked for first is told.
func TestOrder(t *testing.T) {
	static := func(text string, gas uint64) api.Errno {
		inner := entry(at(0x77), 0, text)
		_, l, _ := run("0 0 0 0 0x77 "+number(gas)+" STATICCALL", enough, inner)
		for _, e := range l {
			if e.Depth == 1 && e.Fault != api.OK {
				return e.Fault
			}
		}
		return api.OK
	}
	for _, x := range []struct {
		text string
		gas  uint64
		want api.Errno
	}{
		{"SSTORE", 5000, api.ErrVMStack},          // ahead of static
		{"0 0 SSTORE", 6, api.ErrVMStatic},        // ahead of gas
		{"0 0 SSTORE", 5, api.ErrVMGas},           // of the second number
		{"0 0 0 LOG1", 9, api.ErrVMStatic},        // likewise
		{"0 0 LOG1", 6, api.ErrVMStack},           // likewise
		{"1 0 0 RETURNDATACOPY", 9, api.ErrVMGas}, // ahead of the range
		{"1 0 0 RETURNDATACOPY", 17, api.ErrVMGas},
		{"1 0 0 RETURNDATACOPY", 18, api.ErrVMRange},
		{"0 JUMP", 10, api.ErrVMGas}, // ahead of the jump
		{"0 JUMP", 11, api.ErrVMJump},
		{"1 0 JUMPI", 15, api.ErrVMGas},
		{"1 0 JUMPI", 16, api.ErrVMJump},
		{"0 0 JUMPI", 16, api.OK},
	} {
		if e := static(x.text, x.gas); e != x.want {
			t.Errorf("%s with %d gas: %v, want %v", x.text, x.gas, e, x.want)
		}
	}
}

// TestStatic: what a static frame may not do, and what it may; so of frames below one.
func TestStatic(t *testing.T) {
	fails := " SSTORE LOG0 LOG1 LOG2 LOG3 LOG4 CREATE CREATE2 SELFDESTRUCT "
	check := func(name, text string, want bool) {
		t.Helper()
		inner, way := entry(at(0x77), 50, text), entry(at(0x78), 50, "0 0 0 0 0 0x77 GAS CALL")
		for _, to := range []string{"0x77", "0x78"} {
			_, l, _ := run("0 0 0 0 "+to+" GAS STATICCALL", enough, inner, way)
			fault := false
			for _, e := range l {
				fault = fault || e.Fault == api.ErrVMStatic
				if e.Fault != api.OK && e.Fault != api.ErrVMStatic && e.Fault != api.ErrVMJump {
					t.Errorf("%s: %v", name, e)
				}
			}
			if fault != want {
				t.Errorf("%s by %s: %v", name, to, l)
			}
		}
	}
	for _, o := range known {
		check(o.Name, strings.Repeat("0 ", o.Takes)+o.Name, strings.Contains(fails, " "+o.Name+" "))
	}
	check("CALL with a value", "0 0 0 0 1 0x55 GAS CALL", true)
	check("CALL with a great value", "0 0 0 0 "+digits(api.Word{0, 0, 0, 1})+" 0x55 GAS CALL", true)
	check("CALLCODE with a value", "0 0 0 0 1 0x55 GAS CALLCODE", false)
}

// TestPosition: operations stand where code is gone through from its beginning on.
func TestPosition(t *testing.T) {
	for _, x := range []struct {
		text string
		want uint64
	}{
		{"PC", 0}, {"0 POP PC", 3}, {"JUMPDEST PC", 1}, {"0x010203 POP PC", 5}, {"#7f" + strings.Repeat("5b", 32) + " POP PC", 34},
		{"#5f POP PC", 2}, {"4 JUMP STOP JUMPDEST PC", 5}, {"1 6 JUMPI STOP JUMPDEST PC", 7}, {"0 9 JUMPI PC", 5},
	} {
		if got := answer(t, x.text); got != word.From(x.want) {
			t.Errorf("%s: %v, want %d", x.text, got, x.want)
		}
	}
}

// TestEnd: behind the end of code, there is STOP.
func TestEnd(t *testing.T) {
	for _, text := range []string{"JUMPDEST", "1 2 ADD", "#60", "#61ff", "#7f", "STOP", "STOP #fe", "0 4 JUMPI"} {
		r, l, _ := run(text, enough)
		if r.Status != api.DoneOK || len(r.Out) > 0 {
			t.Errorf("%s: %v", text, r)
		}
		if e := l[len(l)-1]; !sample.SameEvent(e, api.Event{Self: me}) {
			t.Errorf("%s: the last event is %v", text, e)
		}
	}
	if got := answer(t, "#62"+"aabb"+"cc"); got != word.From(0xaabbcc) {
		t.Errorf("%v", got)
	}
	r, _, _ := run("0 MSTORE 32 0 RETURN #61ff", enough)
	if r.Fault != api.ErrVMStack {
		t.Errorf("%v", r)
	}
}

// TestJumps: only to a JUMPDEST, and not to one that belongs to a number.
func TestJumps(t *testing.T) {
	tail := []byte{0x60, 0x5b, 0x5b, 0x61, 0x5b, 0x5b, 0x5b, 0x00, 0x7f, 0x5b}
	for _, jump := range []string{"#56", "#6001 SWAP1 #57"} {
		base := uint64(33 + len(assemble(jump)))
		places := []api.Word{{0, 1}, {base + 2, 1}, {base + 2, 0, 1}, {base + 6, 0, 0, 1}, {base + 6, 0, 0, 1 << 63}, {base + 2 + 1<<32}, {(base + 2) << 56}, {most}, all}
		for i := range base + 20 {
			places = append(places, api.Word{i})
		}
		for _, p := range places {
			code := append(append([]byte{0x7f}, word.Bytes(p)...), assemble(jump)...)
			w := store.New([]api.Entry{{Addr: me, Account: api.Account{Code: append(code, tail...)}}})
			r, l := vm.Call(w, block(), caller, plain(enough))
			may := p == api.Word{base + 2} || p == api.Word{base + 6}
			switch n := len(l); {
			case may && r.Status != api.DoneOK:
				t.Errorf("%s to %v: %v", jump, p, r)
			case !may && r.Fault != api.ErrVMJump:
				t.Errorf("%s to %v: %v", jump, p, r)
			case !may && (!sample.SameEvent(l[n-2], api.Event{Op: code[base-1], Self: me}) || !sample.SameEvent(l[n-1], api.Event{Op: code[base-1], Self: me, Fault: api.ErrVMJump})):
				t.Errorf("%s to %v: the events are %v", jump, p, l)
			}
		}
	}
}

// TestJumpsTwice: the same code jumps many times, to and fro.
func TestJumpsTwice(t *testing.T) {
	r, l, _ := run("9 JUMPDEST 1 SWAP1 SUB DUP1 2 JUMPI 0 MSTORE8 1 0 RETURN", enough)
	if r.Status != api.DoneOK || len(r.Out) != 1 || r.Out[0] != 0 || len(l) != 1+9*7+5 {
		t.Errorf("%v, %d events", r, len(l))
	}
}
