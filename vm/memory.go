package vm

import (
	"quaestor/api"
	"quaestor/fees"
	"quaestor/word"
)

// span is a range of memory: n bytes from at on.
type span struct{ at, n api.Word }

// end is where a range ends; 0: it needs no memory; more than MaxMem: it ends where none can be.
func (s span) end() uint64 {
	if s.n == (api.Word{}) {
		return 0
	}
	sum, over := word.Add(s.at, s.n)
	end, small := word.Small(sum)
	if over || !small {
		return api.MaxMem + 1
	}
	return end
}

// rounded is a size as that of whole words.
func rounded(size uint64) uint64 { return 32 * fees.Words(size) }

// growth is what it costs to have so much memory.
func (f *frame) growth(size uint64) uint64 {
	has := uint64(len(f.memory))
	if size <= has {
		return 0
	}
	return fees.Memory(rounded(size)) - fees.Memory(has)
}

// grow lets the memory have a size, if it has less.
func (f *frame) grow(size uint64) {
	if has := uint64(len(f.memory)); size > has {
		f.memory = append(f.memory, make([]byte, rounded(size)-has)...)
	}
}

// piece is the memory of a range, which there is.
func (f *frame) piece(s span) []byte {
	if s.end() == 0 {
		return nil
	}
	return f.memory[s.at[0]:s.end()]
}

// fill writes what stands in bytes from a place on, and noughts for what is behind their end.
func fill(to, from []byte, at api.Word) {
	n := 0
	if start, small := word.Small(at); small && start < uint64(len(from)) {
		n = copy(to, from[start:])
	}
	clear(to[n:])
}
