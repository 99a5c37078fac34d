package sample

import (
	"bytes"
	"strconv"
	"strings"

	"quaestor/word"
)

// Assembler is what makes code of a text: of names of operations, numbers, which are pushed, and bytes behind a # that stand as they are.
func Assembler() func(text string) []byte {
	named := map[string]byte{}
	for _, o := range Operations() {
		named[o.Name] = o.Op
	}
	return func(text string) []byte {
		var code []byte
		for s := range strings.FieldsSeq(text) {
			op, is := named[s]
			raw, plain := strings.CutPrefix(s, "#")
			switch {
			case is:
				code = append(code, op)
			case plain:
				code = append(code, unhex(raw)...)
			default:
				code = append(code, pushed(s)...)
			}
		}
		return code
	}
}

// Digits are a number in hexadecimal, as an Assembler reads it.
func Digits(b []byte) string {
	s := "0x"
	for _, x := range b {
		s += strconv.FormatUint(uint64(x>>4), 16) + strconv.FormatUint(uint64(x&15), 16)
	}
	return s
}

// pushed is the code that pushes a number, as short as can be.
func pushed(s string) []byte {
	b := bytes.TrimLeft(number(s), "\x00")
	if len(b) == 0 {
		b = []byte{0}
	}
	return append([]byte{0x5f + byte(len(b))}, b...)
}

// number is the bytes of one.
func number(s string) []byte {
	digits, is := strings.CutPrefix(s, "0x")
	if is {
		return unhex(strings.Repeat("0", len(digits)%2) + digits)
	}
	n, err := strconv.ParseUint(s, 10, 64)
	if err != nil {
		panic("neither an operation nor a number: " + s)
	}
	return word.Bytes(word.From(n))
}

func unhex(s string) []byte {
	var b []byte
	for i := 0; i < len(s); i += 2 {
		n, err := strconv.ParseUint(s[i:min(i+2, len(s))], 16, 8)
		if err != nil || i+2 > len(s) {
			panic("no bytes: " + s)
		}
		b = append(b, byte(n))
	}
	return b
}
