package vm_test

import (
	"testing"

	"quaestor/api"
	"quaestor/store"
	"quaestor/vm"
)

// BenchmarkCall runs loops, until a million gas is gone, in an account of long code.
func BenchmarkCall(b *testing.B) {
	for _, c := range []struct{ name, text string }{
		{"sums", "0 JUMPDEST 1 ADD 2 JUMP"},
		{"memory", "0 JUMPDEST DUP1 MLOAD 1 ADD DUP2 MSTORE 2 JUMP"},
		{"slots", "0 JUMPDEST DUP1 SLOAD 1 ADD DUP2 SSTORE 2 JUMP"},
		{"hashes", "JUMPDEST ADDRESS EXTCODEHASH POP 0 JUMP"},
		{"calls", "CALLDATASIZE 34 JUMPI JUMPDEST 0 0 1 0 0 ADDRESS 50000 CALL POP 4 JUMP #5b5b5b5b5b5b5b5b5b5b5b5b5b5b5b5b5b5b5b5b"},
	} {
		code := append(assemble(c.text), make([]byte, 24000)...)
		b.Run(c.name, func(b *testing.B) {
			w := store.New([]api.Entry{{Addr: me, Account: api.Account{Code: code}}})
			for b.Loop() {
				m := w.Mark()
				vm.Call(w, block(), caller, api.Message{To: me, Gas: 1000000})
				w.Back(m)
			}
		})
	}
}
