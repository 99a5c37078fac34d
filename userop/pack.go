package userop

import (
	"slices"

	"quaestor/api"
	"quaestor/desk"
	"quaestor/keccak"
	"quaestor/word"
)

// half is how many bits, and halfBytes how many bytes each number has where two share a word.
const (
	half      = 128
	halfBytes = half / 8
)

// Pack is the parts of an operation, as contracts see it.
func Pack(x api.UserOp) []api.Part {
	return append(signed(x), data(x.Sig))
}

// Hash is an operation's.
func Hash(x api.UserOp, chain api.Word) api.Word {
	var l []api.Word
	for _, p := range signed(x) {
		l = append(l, digest(p))
	}
	return keccak.Join(keccak.Join(l...), word.Wide(desk.Self()), chain)
}

// signed are the parts that a signature is for, which can't be one of them.
func signed(x api.UserOp) []api.Part {
	return []api.Part{
		{Word: word.Wide(x.Sender)},
		{Word: x.Nonce},
		factory(x),
		data(x.CallData),
		pair(word.From(x.VerifyGas), word.From(x.CallGas)),
		{Word: word.From(x.PreGas)},
		pair(x.MaxTip, x.MaxFee),
		paymaster(x),
	}
}

// factory is the part of who makes the sender.
func factory(x api.UserOp) api.Part {
	if !x.HasFactory {
		return data()
	}
	return data(x.Factory[:], x.FactoryData)
}

// paymaster is the part of who pays.
func paymaster(x api.UserOp) api.Part {
	if !x.HasPaymaster {
		return data()
	}
	return data(x.Paymaster[:], number(x.PayVerifyGas), number(x.PostGas), x.PayData)
}

// data is the part of pieces of bytes, one behind the other.
func data(pieces ...[]byte) api.Part {
	return api.Part{Dynamic: true, Bytes: slices.Concat(pieces...)}
}

// pair is the part of two numbers that share a word.
func pair(high, low api.Word) api.Part {
	both, _ := word.Add(word.Shl(word.From(half), high), low)
	return api.Part{Word: both}
}

// number is the bytes of a number that takes half a word.
func number(n uint64) []byte { return word.Bytes(word.From(n))[halfBytes:] }

// digest is the word that stands for a part in a hash.
func digest(p api.Part) api.Word {
	if p.Dynamic {
		return keccak.Sum(p.Bytes)
	}
	return p.Word
}
