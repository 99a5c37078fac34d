package entry_test

import (
	"math/big"

	"quaestor/abi"
	"quaestor/api"
	"quaestor/desk"
	"quaestor/keccak"
	"quaestor/store"
	"quaestor/userop"
	"quaestor/vm"
	"quaestor/word"
)

// model does what the chapter says, in its words and with exact numbers.
type model struct {
	w      *store.World
	b      api.Block
	origin api.Address
}

// calling is what it comes to that a is called from f, what was done, and the gas that it uses.
func (m model) calling(x api.UserOp, a, f api.Address, data []byte, gas uint64) (api.Result, []api.Event, uint64) {
	r, l := vm.Call(m.w, m.b, m.origin, api.Message{From: f, To: a, Data: data, Gas: gas, Price: userop.Price(x, m.b.BaseFee)})
	return r, l, gas - r.Gas
}

// first32 is the word of the first 32 bytes of an Out that has them.
func first32(r api.Result) (api.Word, bool) {
	if r.Status != api.DoneOK || len(r.Out) < 32 {
		return api.Word{}, false
	}
	return word.Read(r.Out[0:32]), true
}

func (m model) verify(x api.UserOp) (api.Checked, [4][]api.Event, api.Errno) {
	c, l, errno := m.steps(x)
	if errno != api.OK {
		c = api.Checked{}
	}
	return c, l, errno
}

func (m model) steps(x api.UserOp) (c api.Checked, l [4][]api.Event, errno api.Errno) {
	var used, gone uint64
	var r api.Result
	// 1
	if errno := userop.Check(x); errno != api.OK {
		return c, l, errno
	}
	c.Hash, c.Prefund = userop.Hash(x, m.b.Chain), userop.Prefund(x)
	// 2
	if x.HasFactory {
		if len(m.w.Code(x.Sender)) != 0 {
			return c, l, api.ErrEntryThere
		}
		r, l[2], gone = m.calling(x, x.Factory, entryMaker(), x.FactoryData, x.VerifyGas)
		used += gone
		a, is := first32(r)
		if !is {
			return c, l, api.ErrEntryCreate
		}
		if a != word.Read(x.Sender[:]) {
			return c, l, api.ErrEntrySender
		}
		if len(m.w.Code(x.Sender)) == 0 {
			return c, l, api.ErrEntryEmpty
		}
		c.Deployed = true
	} else if len(m.w.Code(x.Sender)) == 0 {
		return c, l, api.ErrEntryNone
	}
	// 3
	missing := new(big.Int)
	if deposit := exact(desk.Deposit(m.w, x.Sender)); !x.HasPaymaster && deposit.Cmp(exact(c.Prefund)) < 0 {
		missing.Sub(exact(c.Prefund), deposit)
	}
	// 4
	r, l[1], gone = m.calling(x, x.Sender, self, userop.Validate(x, c.Hash, wide(missing)), x.VerifyGas-used)
	used += gone
	a, is := first32(r)
	if !is {
		return c, l, api.ErrEntryRevert
	}
	c.Account = userop.Spans(a)
	// 5
	if !x.HasPaymaster && !desk.Debit(m.w, x.Sender, c.Prefund) {
		return c, l, api.ErrEntryFunds
	}
	// 6
	if !desk.Use(m.w, x.Sender, x.Nonce) {
		return c, l, api.ErrEntryNonce
	}
	// 7
	if x.HasPaymaster {
		if len(m.w.Code(x.Paymaster)) == 0 {
			return c, l, api.ErrEntryPayNone
		}
		if !desk.Debit(m.w, x.Paymaster, c.Prefund) {
			return c, l, api.ErrEntryDeposit
		}
		r, l[3], gone = m.calling(x, x.Paymaster, self, userop.Sponsor(x, c.Hash, c.Prefund), x.PayVerifyGas)
		used += gone
		parts, errno := abi.Decode([]bool{true, false}, r.Out)
		if r.Status != api.DoneOK || errno != api.OK {
			return c, l, api.ErrEntryPayer
		}
		c.Context, c.Payer = parts[0].Bytes, userop.Spans(parts[1].Word)
	}
	c.Used = x.PreGas + used
	return c, l, api.OK
}

// entryMaker is the address that the chapter tells.
func entryMaker() api.Address {
	return word.Addr(word.Read([]byte("\xef\xc2\xc1\x44\x4e\xbc\xc4\xdb\x75\xe7\x61\x3d\x20\xc6\xa6\x2f\xf6\x7a\x16\x7c")))
}

// timely is in order.
func timely(c api.Checked, time uint64) api.Errno {
	late := func(s api.Span) bool { return time < s.After || s.Until != 0 && s.Until < time }
	if c.Account.Bad {
		return 168
	}
	if late(c.Account) {
		return 166
	}
	if c.Payer.Bad {
		return 174
	}
	if late(c.Payer) {
		return 172
	}
	return 0
}

func (m model) execute(x api.UserOp, c api.Checked) api.Paid {
	p := exact(userop.Price(x, m.b.BaseFee))
	mark := m.w.Mark()
	var taken uint64
	success := true
	if len(x.CallData) > 0 {
		r, _, gone := m.calling(x, x.Sender, self, x.CallData, x.CallGas)
		taken += gone
		success = r.Status == api.DoneOK
	}
	if x.HasPaymaster && len(c.Context) > 0 {
		cost := new(big.Int).Mul(new(big.Int).SetUint64(c.Used+taken), p)
		var mode uint64
		if !success {
			mode = 1
		}
		r, _, gone := m.calling(x, x.Paymaster, self, userop.Post(mode, c.Context, wide(cost), wide(p)), x.PostGas)
		taken += gone
		if r.Status != api.DoneOK {
			m.w.Back(mark)
			success = false
		}
	}
	gas := c.Used + taken + (x.CallGas+x.PostGas-taken)/10
	cost := new(big.Int).Mul(new(big.Int).SetUint64(gas), p)
	if cost.Cmp(exact(c.Prefund)) > 0 {
		cost = exact(c.Prefund)
	}
	back := new(big.Int).Sub(exact(c.Prefund), cost)
	if x.HasPaymaster {
		desk.Credit(m.w, x.Paymaster, wide(back))
	} else {
		desk.Credit(m.w, x.Sender, wide(back))
	}
	m.w.Log(logOf(x, c, success, wide(cost), gas))
	return api.Paid{Hash: c.Hash, Success: success, Gas: gas, Cost: wide(cost)}
}

// logOf is what an execution logs.
func logOf(x api.UserOp, c api.Checked, success bool, cost api.Word, gas uint64) api.Log {
	is := api.Word{}
	if success {
		is = api.Word{1}
	}
	name := "UserOperationEvent(bytes32,address,address,uint256,bool,uint256,uint256)"
	var data []byte
	for _, a := range []api.Word{x.Nonce, is, cost, word.From(gas)} {
		data = append(data, word.Bytes(a)...)
	}
	return api.Log{Addr: self, Topics: []api.Word{keccak.Sum([]byte(name)), c.Hash, word.Wide(x.Sender), word.Wide(x.Paymaster)}, Data: data}
}

// handle works on Copies: what failed was never done.
func (m *model) handle(l []api.UserOp) ([]api.Paid, api.Word, int, api.Errno) {
	if len(l) == 0 || len(l) > 16 {
		return nil, api.Word{}, 0, api.ErrArg
	}
	m.w.Begin()
	before := m.w.Copy()
	var checked []api.Checked
	for i, x := range l {
		c, _, errno := m.verify(x)
		if errno == api.OK {
			errno = timely(c, m.b.Time)
		}
		if errno != api.OK {
			m.w = before
			return nil, api.Word{}, i, errno
		}
		checked = append(checked, c)
	}
	var paid []api.Paid
	sum := new(big.Int)
	for i, x := range l {
		p := m.execute(x, checked[i])
		paid = append(paid, p)
		sum.Add(sum, exact(p.Cost))
	}
	m.w.Pay(self, m.origin, wide(sum))
	return paid, wide(sum), 0, api.OK
}

func sameChecked(a, b api.Checked) bool {
	return a.Hash == b.Hash && a.Prefund == b.Prefund && a.Used == b.Used && a.Account == b.Account && a.Payer == b.Payer && string(a.Context) == string(b.Context) && a.Deployed == b.Deployed
}
