package sample

import (
	"strconv"
	"strings"
)

// operations are those of the chapter on bytecode that it lists one by one, in its words: byte, name, words taken, words given.
const operations = `
00 STOP 0 0; 01 ADD 2 1; 02 MUL 2 1; 03 SUB 2 1; 04 DIV 2 1; 05 SDIV 2 1;
06 MOD 2 1; 07 SMOD 2 1; 08 ADDMOD 3 1; 09 MULMOD 3 1; 0a EXP 2 1; 0b SIGNEXTEND 2 1;
10 LT 2 1; 11 GT 2 1; 12 SLT 2 1; 13 SGT 2 1; 14 EQ 2 1; 15 ISZERO 1 1;
16 AND 2 1; 17 OR 2 1; 18 XOR 2 1; 19 NOT 1 1; 1a BYTE 2 1; 1b SHL 2 1;
1c SHR 2 1; 1d SAR 2 1; 20 KECCAK256 2 1; 30 ADDRESS 0 1; 31 BALANCE 1 1; 32 ORIGIN 0 1;
33 CALLER 0 1; 34 CALLVALUE 0 1; 35 CALLDATALOAD 1 1; 36 CALLDATASIZE 0 1; 37 CALLDATACOPY 3 0; 38 CODESIZE 0 1;
39 CODECOPY 3 0; 3a GASPRICE 0 1; 3b EXTCODESIZE 1 1; 3c EXTCODECOPY 4 0; 3d RETURNDATASIZE 0 1; 3e RETURNDATACOPY 3 0;
3f EXTCODEHASH 1 1; 40 BLOCKHASH 1 1; 41 COINBASE 0 1; 42 TIMESTAMP 0 1; 43 NUMBER 0 1; 44 PREVRANDAO 0 1;
45 GASLIMIT 0 1; 46 CHAINID 0 1; 47 SELFBALANCE 0 1; 48 BASEFEE 0 1; 50 POP 1 0; 51 MLOAD 1 1;
52 MSTORE 2 0; 53 MSTORE8 2 0; 54 SLOAD 1 1; 55 SSTORE 2 0; 56 JUMP 1 0; 57 JUMPI 2 0;
58 PC 0 1; 59 MSIZE 0 1; 5a GAS 0 1; 5b JUMPDEST 0 0; f0 CREATE 3 1; f1 CALL 7 1;
f2 CALLCODE 7 1; f3 RETURN 2 0; f4 DELEGATECALL 6 1; f5 CREATE2 4 1; fa STATICCALL 6 1; fd REVERT 2 0;
ff SELFDESTRUCT 1 0`

// Operation is one of bytecode: how many words it takes from the stack, and gives.
type Operation struct {
	Op           byte
	Name         string
	Takes, Gives int
}

// Operations are all of them.
func Operations() []Operation {
	var l []Operation
	for row := range strings.SplitSeq(operations, ";") {
		f := strings.Fields(row)
		op, _ := strconv.ParseUint(f[0], 16, 8)
		takes, _ := strconv.Atoi(f[2])
		gives, _ := strconv.Atoi(f[3])
		l = append(l, Operation{byte(op), f[1], takes, gives})
	}
	for n := range 33 {
		l = append(l, Operation{0x5f + byte(n), "PUSH" + strconv.Itoa(n), 0, 1})
	}
	for i := range 16 {
		n := i + 1
		l = append(l, Operation{0x80 + byte(i), "DUP" + strconv.Itoa(n), n, n + 1})
		l = append(l, Operation{0x90 + byte(i), "SWAP" + strconv.Itoa(n), n + 1, n + 1})
	}
	for n := range 5 {
		l = append(l, Operation{0xa0 + byte(n), "LOG" + strconv.Itoa(n), n + 2, 0})
	}
	return l
}
